/-
  AllWalkers: spec's.
-/
import Derived.Test.YtcnhgfgjmdbddaaAll
namespace Go.Proofs.Ytcnhgfgjmdbddaa.Base
open Go.RowKit
set_option linter.unusedVariables false
set_option linter.unusedSimpArgs false

theorem infoWalker : (Try.prog.info? 41).map (fun i => (i.zero, i.size, i.bytes)) = some (some (.agg #[.int .i64 0, .int .i64 0, .int .i64 0, .int .i64 0]), 4, 32) := by kernel_rfl

theorem owns_below {wr wa : World} {base n : Nat} {e : TypeId} {v : Value} {xs : List Value} (h : wr.ownsRow base e 4 v n xs) (hb : Below wr.heap.size wr wa) : wa.ownsRow base e 4 v n xs :=
  h.kept (grown_of_below (r := none) hb) (by by_cases e : v.ownBlock = none <;> simp [e])
theorem ivs_one (l : List Int) : ∀ u ∈ ivs l, u.oneCell' = true := fun u hu => by
  obtain ⟨x, -, rfl⟩ := List.mem_map.1 hu
  rfl
theorem owns_far {w : World} {base n b : Nat} {e : TypeId} {v : Value} {xs : List Value} (h : w.ownsRow base e 4 v n xs) (hb : w.heap.size ≤ b) : some b ≠ v.ownBlock := fun e => by
  have := (h.lt b e.symm).2
  omega

theorem below_step {B : Nat} {w0 w2 wa : World} {o : Obj} (h : Below B w0 w2) (hb : Below (w2.alloc o).drew.heap.size (w2.alloc o).drew wa) (hB : B ≤ w2.heap.size := by first | assumption | omega) : Below B w0 wa :=
  ((h.alloc hB o).drew).trans (hb.mono (by simp [World.drew]; omega))
theorem cel_step {w2 wa : World} {p : Nat} {cs : List Value} {o : Obj} (h : Cel (w2.alloc o) p cs) (hb : Below (w2.alloc o).drew.heap.size (w2.alloc o).drew wa) : Cel wa p cs :=
  Cel.below (w := (w2.alloc o).drew) h hb h.1

theorem cel_grow {wa X w1 : World} {p : Nat} {cs : List Value} {r : Option Nat} (h : Cel wa p cs) (hg : X.grownBy w1 r) (hX : Below wa.heap.size wa X) (hne : r = some p → False) : Cel w1 p cs :=
  (h.below hX h.1).grownR hg hne
theorem below_grow {B : Nat} {w0 wa X w1 : World} {r : Option Nat} (h : Below B w0 wa) (hg : X.grownBy w1 r) (hX : Below wa.heap.size wa X) (hB : B ≤ wa.heap.size) (hr : ∀ b, r = some b → B ≤ b) : Below B w0 w1 :=
  (h.trans (hX.mono hB)).grown hg (Nat.le_trans hB hX.size) hr
theorem owns_next {w : World} {base k : Nat} {H : Int} {e : TypeId} {v : Value} (h : w.ownsRow base e 4 v (2 * k + 2) (ivs (wls H k) ++ ivs (wl8 H k))) : w.ownsRow base e 4 v (2 * (k + 1)) (ivs (wls H (k + 1))) := by
  rw [show ivs (wls H (k + 1)) = ivs (wls H k) ++ ivs (wl8 H k) from List.map_append]
  exact h

set_option maxRecDepth 100000 in
set_option maxHeartbeats 2000000 in
theorem spec_allWalkers (w : World) (W H : Int) (A : Option Addr) (n c : Nat) (f : Nat → Int) (hr : Row .i64 w A n c f) :
    Calls Try.prog 34 #[.agg #[.int .i64 W, .int .i64 H, .slice A n c]] w (AllOut w.heap.size W H n f w) := by
  have HL := Lib.hid (show Below w.heap.size w (w.alloc (.cells #[.int .i64 W, .int .i64 H, .slice A n c] 28)) from (Below.refl _ _).alloc (Nat.le_refl _) _)
  have HR := Lib.hid hr
  clear hr
  cases hv : validB W H n f
  · obtain ⟨e1, e2⟩ := segN_no hv
    have HV := Lib.hid hv
    clear hv
    have E1 := Lib.hid e1
    have E2 := Lib.hid e2
    clear e1 e2
    go_enter Try.func34, Try.ntmps34
    go_wp2_with fail
    refine (specOk_is HV.out (Box.new w _ W H A n c) (HR.out.below HL.out (Nat.le_refl _))).mono ?_
    rintro e w1 ⟨m, rfl, rfl⟩
    go_wp2
    go_ret2
    refine ⟨none, 0, ?_, ?_, below_drewN HL.out m⟩
    · unfold allN
      rw [E1.out, E2.out]
      rfl
    · have E : allN W H n f = 0 := by unfold allN; rw [E1.out]; rfl
      rw [E]
      exact ⟨Nat.le_refl _, Nat.zero_le _, fun i hi => absurd hi (by omega), fun h => absurd h (by omega)⟩
  · obtain ⟨hW, hH, -, -⟩ := validB_yes hv
    obtain ⟨e1, e2⟩ := segN_yes hv
    obtain ⟨m0, m1⟩ := segs_bd hW hH
    obtain ⟨a1, a2⟩ := side_mk hW
    obtain ⟨b1, b2⟩ := side_mk hH
    have HW := Lib.hid hW
    have HH := Lib.hid hH
    have HV := Lib.hid hv
    have E1 := Lib.hid e1
    have E2 := Lib.hid e2
    clear hv e1 e2 hW hH
    obtain ⟨i0, hi, hz0, hz1, hz2⟩ := info_parts infoWalker
    go_enter Try.func34, Try.ntmps34
    go_wp2_with fail
    refine (specOk_is HV.out (Box.new w _ W H A n c) (HR.out.below HL.out (Nat.le_refl _))).mono ?_
    rintro e w1 ⟨m, rfl, rfl⟩
    go_wp2
    go_loopw [4, 5] (fun out kv wr => ∃ k : Nat, (k : Int) ≤ 4 * W * H ∧ kv = .int .i64 k ∧ Hid (wr.ownsRow (w.heap.size + 1) 41 4 out (2 * k) (ivs (wls H k))) ∧ Hid (Below (w.heap.size + 1) (w.alloc (.cells #[.int .i64 W, .int .i64 H, .slice A n c] 28)) wr))
      (fun _ kv _ => 300 - (intOf kv).toNat)
    case atStart =>
      refine ⟨0, by omega, rfl, Lib.hid ?_, Lib.hid (((below_drewN (Below.refl _ _) m).alloc (by first | exact Nat.le_refl _ | (simp; done) | (simp; omega) | omega) _))⟩
      have hs : ((w.alloc (.cells #[.int .i64 W, .int .i64 H, .slice A n c] 28)).drewN m).heap.size = w.heap.size + 1 := by simp [World.drewN]
      rw [← hs]
      exact World.ownsRow_lit (size := 4) _ #[] 0 (Nat.le_refl _) (Nat.zero_le _) rfl
    case round =>
      obtain ⟨k, hk, rfl, HO, HB⟩ := hrel
      obtain ⟨hp, k0, k1, k2⟩ := (Box.new w 28 W H A n c).below HB.out (by simp)
      by_cases hlt : (k : Int) < 4 * W * H
      · go_wp2_with fail
        obtain ⟨g1, g2, g3, g4, g5, g6, g7, g8⟩ := wt_rng (s := k) HW.out HH.out hlt
        refine (specWalker _ w.heap.size W H A n c k ((Box.new w 28 W H A n c).below HB.out (by simp)) HH.out (by omega) (by omega)).mono ?_
        rintro e w2 ⟨rfl, b2⟩
        go_wp2
        have B2 := Lib.hid b2
        clear b2 k0 k1 k2
        have K0 := Lib.hid (Cel.new w2 [.int .i64 (wtX H k), .int .i64 (wtY H k), .int .i64 1, .int .i64 (wtD H k)] 41)
        have hbase : w.heap.size + 1 ≤ wr.heap.size := by omega
        have hw2 := B2.out.size
        go_region_held3 (fun w' => w'.cell? ⟨w2.heap.size, 0, none⟩ = some (.int .i64 (wtX H k)) ∧ w'.cell? ⟨w2.heap.size, 1, none⟩ = some (.int .i64 (wtY H k)) ∧ w'.cell? ⟨w2.heap.size, 2, none⟩ = some (.int .i64 1) ∧ w'.cell? ⟨w2.heap.size, 3, none⟩ = some (.int .i64 (wtD H k)))
          (first | exact ⟨r0, r1, r2, r3⟩ | exact ⟨q0, q1, q2, q3⟩ | go_keep | (simp [go_sem]; done))
          (first
            | (go_at_call 62; refine (specBack _ (wtX H k) (wtY H k) 1 (wtD H k) g1 (by omega) g3 g4 rfl g5).mono ?_; rintro e wa ⟨rfl, ba⟩; have HA := Lib.hid (below_step B2.out ba); have hza := HA.out.size; have KA := Lib.hid (cel_step K0.out ba); have q0 := KA.out.2 0 _ rfl; have q1 := KA.out.2 1 _ rfl; have q2 := KA.out.2 2 _ rfl; have q3 := KA.out.2 3 _ rfl; clear ba)
            | (refine step_append_lies _ (by rfl) _ _ _ (by rfl) (w.heap.size + 1) 41 i0 _ 4 32 Try.underlying55 hi hz0 hz1 hz2 rfl (by omega) u4 (2 * k) (ivs (wls H k)) (by rfl) (by first | exact ((owns_below HO.out HA.out).alloc _).drew | exact (owns_below HO.out HA.out).alloc _) ⟨wa.heap.size, 0, none⟩ 2 2 [.int .i64 (wtX H k), .int .i64 (wtY H k), .int .i64 1, .int .i64 (wtD H k), .int .i64 (wtX H k + 1), .int .i64 (wtY H k + wtD H k), .int .i64 (-1), .int .i64 (-wtD H k)] (by rfl) (by rfl) (World.news_of_block (cs := #[.int .i64 (wtX H k), .int .i64 (wtY H k), .int .i64 1, .int .i64 (wtD H k), .int .i64 (wtX H k + 1), .int .i64 (wtY H k + wtD H k), .int .i64 (-1), .int .i64 (-wtD H k)]) (t := 41) (fr := (0, 0)) (heap_alloc_new wa _)) (ivs_one (wl8 H k)) (by omega) (by unfold maxLen; omega) (by omega) (by simp; omega) (wa.heap.size + 1) (by simp) ?_; intro gg cap w1 hown1 hgrow hat hlt1; have KC : Hid (Cel w1 w2.heap.size [.int .i64 (wtX H k), .int .i64 (wtY H k), .int .i64 1, .int .i64 (wtD H k)]) := Lib.hid (cel_grow KA.out hgrow (by first | exact ((Below.refl _ _).alloc (Nat.le_refl _) _).drew | exact (Below.refl _ _).alloc (Nat.le_refl _) _ | exact (Below.refl _ _).drew.alloc (Nat.le_refl _) _) (fun e => owns_far (b := w2.heap.size) HO.out hw2 e.symm)); have r0 := KC.out.2 0 _ rfl; have r1 := KC.out.2 1 _ rfl; have r2 := KC.out.2 2 _ rfl; have r3 := KC.out.2 3 _ rfl; clear hat))
        have HB1 := Lib.hid (below_grow (HB.out.trans (HA.out.mono hbase)) hgrow (by first | exact ((Below.refl _ _).alloc (Nat.le_refl _) _).drew | exact (Below.refl _ _).alloc (Nat.le_refl _) _ | exact (Below.refl _ _).drew.alloc (Nat.le_refl _) _) (by omega) (fun b e => (HO.out.lt b e).1))
        have HO1 := Lib.hid (owns_next hown1)
        clear hown1 hgrow q0 q1 q2 q3 r0 r1 r2 r3 KA KC HA K0 HO HB B2
        go_wp2
        go_roundw
        case rel => exact ⟨k + 1, by omega, by go_num, HO1, HB1⟩
        case measure => simp [intOf]; omega
      · go_wp2
        go_ret2
        have ek : k = (4 * W * H).toNat := by omega
        obtain ⟨A', c', rfl, ho⟩ := ownS_of_owns HO.out (wls_wf HW.out HH.out k (by omega))
        refine ⟨A', c', ?_, ?_, HL.out.trans (HB.out.mono (by simp))⟩
        · unfold allN
          rw [E1.out, E2.out, ek]
          rfl
        · unfold allN allF
          rw [E1.out, ← ek]
          exact ⟨ho.1, ho.2.1, ho.2.2.1, fun hn => by obtain ⟨b, o, q1, q2, q3⟩ := ho.2.2.2 hn; exact ⟨b, o, q1, by omega, q3⟩⟩
end Go.Proofs.Ytcnhgfgjmdbddaa.Base
