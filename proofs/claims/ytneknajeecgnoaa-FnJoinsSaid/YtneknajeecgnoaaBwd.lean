/-
  A deferred function whose body holds a range over a function; and slices.Backward over the changes of a forest.
-/
import Derived.Test.YtneknajeecgnoaaPld
import Derived.Test.YtneknajeecgnoaaRfj
import Derived.Defers
import Derived.RangeFuncLeaves
import Derived.OwnWalkIn
import Derived.TacticsInMore
import Derived.LoopNIn
import Derived.LoopIn
namespace Go.Proofs.Ytneknajeecgnoaa.Base
open Go Go.RowKit
set_option linter.unusedVariables false
set_option linter.unusedSimpArgs false
attribute [local go_sem] Oper.semAt_some

/-- what the body of a deferred function must achieve that holds one range over a function -/
def bodyPost1 (P : Program) (fn : Func) (R : Ending → World → Prop) : Exit → Act → World → Prop
  | .normal, a, w | .ret, a, w => ∃ D ar w', a.defers = [{ target := .collected D, args := ar }] ∧ (Instr.takeDeferred D).run P w = .ok [] w' ∧ ∃ v, (results fn a.tmps).run P w' = .ok v w' ∧ R (.returned v) w'
  | _, _, _ => False
theorem callsD_of_wp_mark {P : Program} {n : Nat} {f : FuncId} {fn : Func} {c : Code} {args : Array Value} {u : FrameMode} {w : World} {R : Ending → World → Prop}
    (hf : P.funcs[f]? = some fn) (hb : fn.body = some c)
    (h : c.wpIn Fence.wide n P (bodyPost1 P fn R) { tmps := args ++ Array.replicate (fn.ntmps - args.size) undef, defers := [] } w) :
    CallsD P f args u w fun e u' w' => u' = u ∧ R e w' := by
  intro c₀ cs hu
  let b : Frame := { (default : Frame) with fn := f, kind := .deferred, roundOf := none }
  have henter : Frame.enter P f args .deferred =
      b.atR { tmps := args ++ Array.replicate (fn.ntmps - args.size) undef, defers := [] } [.code c] := by
    simp [Frame.enter, Frame.atR, hf, hb, b]
  have hc : ({ c₀ with mode := u } : Frame) = c₀ := by subst hu; rfl
  obtain ⟨e, a', w', hq, harr⟩ := h b [] (c₀ :: cs) rfl trivial (room_wide _)
  rw [← henter] at harr
  cases e with
  | normal =>
    obtain ⟨D, ar, w2, hd, ht, v, hr, hR⟩ := hq
    have h1 := step_collected (P := P) (fr := { b.atR a' [] with mode := .returning }) (cs := c₀ :: cs) (w := w') (d := { target := .collected D, args := ar }) (r := D) (ds := []) (calls := []) (by simp) hd rfl ht
    exact ⟨.returned v, u, w2, _, ⟨rfl, hR⟩, (by rw [hc]; exact (harr.steps.trans (.one (stepR_end rfl))).trans (.one h1)), rfl, rfl, rfl, fn, hf, hr⟩
  | ret =>
    obtain ⟨D, ar, w2, hd, ht, v, hr, hR⟩ := hq
    obtain ⟨todo, hs⟩ := harr.1 rfl
    have h1 := step_collected (P := P) (fr := { b.atR a' todo with mode := .returning }) (cs := c₀ :: cs) (w := w') (d := { target := .collected D, args := ar }) (r := D) (ds := []) (calls := []) (by simp) hd rfl ht
    exact ⟨.returned v, u, w2, _, ⟨rfl, hR⟩, (by rw [hc]; exact hs.steps.trans (.one h1)), rfl, rfl, rfl, fn, hf, hr⟩
  | panic chain => exact hq.elim
  | exit id => exact hq.elim
  | goto l => exact hq.elim
  | outgrown => exact hq.elim

/-- block G holds the changes L -/
def ChA (w : World) (G E : Nat) (L : List (Nat × Nat)) : Prop :=
  ∃ cs, At w G cs 130 ∧ ∀ j, j < L.length → cs[j * 2]? = some (.pointer (some ⟨E, (L.getD j (0, 0)).1 * 2, none⟩)) ∧ cs[j * 2 + 1]? = some (.pointer (some ⟨E, (L.getD j (0, 0)).2 * 2, none⟩))
theorem ChA.of_block {w w' : World} {G E : Nat} {L : List (Nat × Nat)} (h : ChA w G E L) (e : w'.heap[G]? = w.heap[G]?) : ChA w' G E L := by
  obtain ⟨cs, h1, h2⟩ := h
  exact ⟨cs, h1.of_block e, h2⟩
theorem ChA.lt {w : World} {G E : Nat} {L : List (Nat × Nat)} (h : ChA w G E L) : G < w.heap.size := by obtain ⟨cs, h1, h2⟩ := h; exact h1.lt
theorem chV_at (E : Nat) : ∀ (L : List (Nat × Nat)) (j : Nat), j < L.length → (chV E L)[j * 2]? = some (.pointer (some ⟨E, (L.getD j (0, 0)).1 * 2, none⟩)) ∧ (chV E L)[j * 2 + 1]? = some (.pointer (some ⟨E, (L.getD j (0, 0)).2 * 2, none⟩))
  | [], j, h => absurd h (Nat.not_lt_zero _)
  | (a, b) :: L, 0, h => by simp [chV]
  | (a, b) :: L, j + 1, h => by
    have ih := chV_at E L j (by simpa using h)
    have e1 : (j + 1) * 2 = j * 2 + 1 + 1 := by omega
    rw [e1]
    simpa [chV] using ih
theorem owns_chA {w : World} {base E : Nat} {cv : Value} {L : List (Nat × Nat)} (h : w.ownsRow base 130 2 cv L.length (chV E L)) (hl : 0 < L.length) : ∃ G cap, cv = .slice (some ⟨G, 0, none⟩) L.length cap ∧ base ≤ G ∧ ChA w G E L := by
  obtain ⟨h0, h1⟩ := h
  rcases h1 with ⟨e1, e2⟩ | ⟨g, cap, cur, e1, hg, h2, h3, h4, h5, h6⟩
  · omega
  · refine ⟨g, cap, e1, hg, cur, h2, fun j hj => ?_⟩
    have h7 : ∀ i, i < L.length * 2 → cur[i]? = (chV E L)[i]? := fun i hi => by
      rw [← h6, List.getElem?_take_of_lt hi, Array.getElem?_toList]
    rw [h7 _ (by omega), h7 _ (by omega)]
    exact chV_at E L j hj
def chE (E : Nat) (L : List (Nat × Nat)) (j : Nat) : Value := .agg #[.pointer (some ⟨E, (L.getD j (0, 0)).1 * 2, none⟩), .pointer (some ⟨E, (L.getD j (0, 0)).2 * 2, none⟩)]
theorem impl_backward (w : World) (A : Option Addr) (m c : Nat) :
    Calls Try.prog 113 #[.slice A m c] w (fun e w' => e = .returned (.func (.func 119) #[] #[.pointer (some ⟨w.heap.size, 0, none⟩)]) ∧ w' = w.alloc (.cells #[.slice A m c] 93)) := by
  go_enter Try.func113, Try.ntmps113
  go_wp2
  go_ret
  exact ⟨rfl, rfl⟩
set_option maxHeartbeats 4000000 in
theorem bwd_iter (n : Nat) (hn1 : 1 ≤ n) (w : World) (E pb G : Nat) (A : Option Addr) (cap : Nat) (L : List (Nat × Nat)) (hb : At w pb #[.slice A L.length cap] 93) (hG : 0 < L.length → A = some ⟨G, 0, none⟩ ∧ ChA w G E L) (hm : L.length ≤ 1048576) :
    IterY Fence.wide n Try.prog 119 #[.pointer (some ⟨pb, 0, none⟩)] (fun k => #[.int .i64 ((L.length : Int) - 1 - k), chE E L (L.length - 1 - k)]) L.length 0 [pb, G] w := fun l J Jx Wa hba hnew hJ hJx hset hY h0 => by
  refine callsIn_of_wp Try.func119 rfl trivial ?_ rfl
  simp only [Try.ntmps119, List.size_toArray, List.length_cons, List.length_nil, Nat.reduceAdd, Nat.reduceSub, Array.replicate_succ, Array.replicate_zero, List.push_toArray, List.append_toArray, List.nil_append, List.cons_append]
  have HA := Lib.hid (hb.below hba hb.lt)
  have HG := Lib.hid (fun h => (hG h).2.of_block (hba.block G (hG h).2.lt))
  have HGA := Lib.hid (fun h => (hG h).1)
  have HJ0 := Lib.hid h0
  have HY := Lib.hid hY
  have k0 : Wa.cell? ⟨pb, 0, none⟩ = some (.slice A L.length cap) := HA.out.cellv (i := 0) rfl
  have l0 := HA.out.lt
  clear hb hG h0 hnew hJ hJx hset hY
  obtain ⟨N, hN⟩ : ∃ N, L.length = N := ⟨_, rfl⟩
  have HN := Lib.hid hN
  rw [hN] at hm HA HG HGA HY k0 ⊢
  clear hN
  gi_wp2_with fail
  clear k0
  gi_loopw [3] (fun iv wr => ∃ k : Nat, k ≤ N ∧ iv = .int .i64 ((N : Int) - 1 - k) ∧ Hid (J [] k wr) ∧ Hid (At wr pb #[.slice A N cap] 93) ∧ Hid (0 < N → ChA wr G E L)) (fun iv _ => (intOf iv + 1).toNat)
  case atStart => exact ⟨0, Nat.zero_le _, by simp, HJ0, HA, HG⟩
  case round =>
    clear HJ0 HA HG l0
    obtain ⟨k, hk, rfl, HJk, HAk, HGk⟩ := hrel
    by_cases hlt : k < N
    · obtain ⟨j, hj⟩ : ∃ j : Nat, N - 1 - k = j := ⟨_, rfl⟩
      have hji : (N : Int) - 1 - k = (j : Int) := by omega
      have hjN : j < N := by omega
      obtain ⟨cs, g1, g2⟩ := HGk.out (by omega)
      obtain ⟨c1, c2⟩ := g2 j (by rw [HN.out]; exact hjN)
      obtain ⟨x, hx⟩ : ∃ x, (L.getD j (0, 0)).1 = x := ⟨_, rfl⟩
      obtain ⟨y, hy⟩ : ∃ y, (L.getD j (0, 0)).2 = y := ⟨_, rfl⟩
      rw [hx] at c1
      rw [hy] at c2
      have q1 := g1.cellv c1
      have q2 := g1.cellv c2
      have lG := g1.lt
      have hAe := HGA.out (by omega)
      obtain ⟨fn, tm, assign, body, hyy, hR⟩ := HY.out [] k wr hlt HJk.out
      have hel : chE E L (N - 1 - k) = .agg #[.pointer (some ⟨E, x * 2, none⟩), .pointer (some ⟨E, y * 2, none⟩)] := by unfold chE; rw [hj, hx, hy]
      have hy' : (Instr.yield l #[.int .i64 (j : Int), .agg #[.pointer (some ⟨E, x * 2, none⟩), .pointer (some ⟨E, y * 2, none⟩)]]).run Try.prog wr = .ok (.round l fn tm assign body) wr := by
        rw [hji, hel] at hyy
        exact hyy
      subst hAe
      have HJJ := Lib.hid hji
      have k0 : wr.cell? ⟨pb, 0, none⟩ = some (.slice (some ⟨G, 0, none⟩) N cap) := HAk.out.cellv (i := 0) rfl
      have l0 := HAk.out.lt
      rw [hji]
      clear hyy hel hx hy c1 c2 g1 g2 hji hj
      gi_wp2_with fail
      clear k0 q1 q2
      refine hR.mono ?_
      clear hy' hR
      rintro e W5 (⟨rfl, hJ5, hk5⟩ | ⟨rfl, hJx5⟩)
      · have HA5 := Lib.hid (HAk.out.of_block (hk5.box pb (by simp) l0))
        have HG5 := Lib.hid (fun h : 0 < N => (HGk.out h).of_block (hk5.box G (by simp) lG))
        have HJ5 := Lib.hid hJ5
        clear hk5 hJ5 HAk HGk HJk
        gi_wp2
        go_roundw
        case rel => exact ⟨k + 1, by omega, by have := HJJ.out; first | (congr 1; done) | (congr 1; omega), HJ5, HA5, HG5⟩
        case measure => (simp [intOf]; try omega)
      · have HJ5 := Lib.hid hJx5
        clear hJx5
        gi_wp2
        refine bodyPost_ret (results_none rfl _ _ _) rfl ?_
        exact ⟨⟨_, rfl⟩, .inr ⟨k + 1, by omega, HJ5.out⟩⟩
    · obtain rfl : k = N := by omega
      have hz : (k : Int) - 1 - k = -1 := by omega
      rw [hz]
      gi_wp2
      go_end0
      exact ⟨⟨_, rfl⟩, .inl ⟨[], HJk.out⟩⟩
end Go.Proofs.Ytneknajeecgnoaa.Base
