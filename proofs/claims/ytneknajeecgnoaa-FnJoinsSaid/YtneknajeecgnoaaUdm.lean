/-
  UndoJoin of the program, out of its forest.
-/
import Derived.Test.YtneknajeecgnoaaCgs
import Derived.Test.YtneknajeecgnoaaJgs
import Derived.Test.YtneknajeecgnoaaUdk
namespace Go.Proofs.Ytneknajeecgnoaa.Base
open Go Go.RowKit
set_option linter.unusedVariables false
set_option linter.unusedSimpArgs false

/-- the parents behind taking the entries n .. n + k - 1 of the log back -/
def unP (p : Nat → Nat) (g : Nat → Int) (n : Nat) : Nat → Nat → Nat
  | 0 => p
  | k + 1 => hvP (unP p g n k) (g (n + k)).toNat (g (n + k)).toNat
theorem owns_pre {w : World} {base b m n cap : Nat} {g : Nat → Int} (h : w.ownsRow base 2 1 (.slice (some ⟨b, 0, none⟩) m cap) m (cellsOfF m g)) (hn : n ≤ m) : w.ownsRow base 2 1 (.slice (some ⟨b, 0, none⟩) n cap) n (cellsOfF n g) := by
  refine ⟨by rw [cellsOfF_len]; omega, ?_⟩
  rcases h.2 with ⟨e, e2⟩ | ⟨g', cap', cur, e, h1, h2, h3, h4, h5, h6⟩
  · cases e
  · injection e with e1 e2 e3
    injection e1 with e1
    injection e1 with e1 _ _
    subst e1 e3
    refine .inr ⟨b, cap, cur, rfl, h1, h2, by omega, h4, h5, ?_⟩
    have h7 : (cur.toList.take (m * 1)).take (n * 1) = (cellsOfF m g).take (n * 1) := by rw [h6]
    rw [List.take_take] at h7
    rw [show min (n * 1) (m * 1) = n * 1 by omega] at h7
    rw [h7]
    unfold cellsOfF
    rw [← List.map_take, List.take_range, show min (n * 1) m = n by omega]
/-- what undo leaves -/
def UndoneF (F E N b n cap k base : Nat) (cv : Value) (p : Nat → Nat) (g : Nat → Int) (w : World) (e : Ending) (w' : World) : Prop :=
  (∃ v, e = .returned v) ∧ Elm w' E N (unP p g n k) ∧ At w' F #[.slice (some ⟨E, 0, none⟩) N N, .slice (some ⟨b, 0, none⟩) n cap, cv] 95 ∧ w'.ownsRow base 2 1 (.slice (some ⟨b, 0, none⟩) n cap) n (cellsOfF n g) ∧ w'.heap.size = w.heap.size ∧ ∀ B, Frm B F E w w'
theorem Frm.setE {B F E : Nat} {w A : World} (h : Frm B F E w A) {x : Nat} (hx : x = E ∨ x = F) (i : Nat) (v : Value) : Frm B F E w (A.setCell ⟨x, i, none⟩ v) :=
  ⟨h.os, h.tape, h.output, by simpa [World.setCell] using h.size, fun k h1 h2 h3 => (Below.heap_setCell A ⟨x, i, none⟩ v k (by rcases hx with rfl | rfl <;> (intro e; simp at e; omega))).trans (h.block k h1 h2 h3)⟩
theorem Frm.drw {B F E : Nat} {w A : World} (h : Frm B F E w A) : Frm B F E w A.drew := ⟨h.os, h.tape, h.output, h.size, fun k h1 h2 h3 => h.block k h1 h2 h3⟩
set_option maxHeartbeats 2000000 in
theorem impl_undo_f (w : World) (F E N m n b cap base : Nat) (cv : Value) (p : Nat → Nat) (g : Nat → Int) (hF : At w F #[.slice (some ⟨E, 0, none⟩) N N, .slice (some ⟨b, 0, none⟩) m cap, cv] 95) (hE : Elm w E N p)
    (hlog : w.ownsRow base 2 1 (.slice (some ⟨b, 0, none⟩) m cap) m (cellsOfF m g)) (hbF : b ≠ F) (hbE : b ≠ E) (hFE : F ≠ E) (hg : ∀ i, i < m → 0 ≤ g i ∧ g i < N) (hn : n ≤ m) (hN : N ≤ 1000) :
    Calls Try.prog 65 #[.pointer (some ⟨F, 0, none⟩), .int .i64 (n : Int)] w (UndoneF F E N b n cap (m - n) base cv p g w) := by
  have HF := Lib.hid hF
  have HE := Lib.hid hE
  have HL := Lib.hid hlog
  have HG := Lib.hid hg
  have b1 := hF.cellv (i := 1) rfl
  have fz := hF.lt
  obtain ⟨g0, cap0, cur0, e0, hlb, hl2, hmc, hcm, -⟩ := hlog.2.resolve_left (fun h => by cases h.1)
  injection e0 with e1 e2 e3
  injection e1 with e1
  injection e1 with e1 _ _
  subst e1 e3
  clear hF hE hlog hg e2 hl2
  unfold maxLen at hcm
  have hnm : (n : Int) ≤ (m : Int) := by omega
  by_cases hcn : cap = n
  · obtain rfl : m = n := by omega
    subst hcn
    rw [Nat.sub_self]
    have HZ := Lib.hid (show UndoneF F E N b cap cap 0 base cv p g w (.returned (.tuple #[])) (w.setCell ⟨F, 1, none⟩ (.slice (some ⟨b, 0, none⟩) cap cap)) from ⟨⟨_, rfl⟩, HE.out.of_block (Below.heap_setCell w ⟨F, 1, none⟩ _ E (by exact fun e => hFE e.symm)), by simpa using HF.out.set 1 (.slice (some ⟨b, 0, none⟩) cap cap), HL.out.kept (grown_set w F 1 _) (own_ne (fun q hq => by cases hq; exact hbF)), by simp [World.setCell], fun B => (Frm.refl B F E w).setE (.inr rfl) _ _⟩)
    go_enter Try.func65, Try.ntmps65
    go_wp2
    go_loopw [13] (fun iv wr => iv = .int .i64 0 ∧ wr = w) (fun iv _ => 0)
    case atStart => exact ⟨rfl, rfl⟩
    case round =>
      obtain ⟨rfl, hw⟩ := hrel
      subst hw
      have f1 := HF.out.frozen 1
      go_wp2
      go_end0
      exact HZ.out
  · have hcn2 : n < cap ∨ n = cap ∧ False := by omega
    go_enter Try.func65, Try.ntmps65
    go_wp2
    go_loopw [13] (fun iv wr => ∃ k : Nat, k ≤ m - n ∧ iv = .int .i64 (k : Int) ∧ Hid (Elm wr E N (unP p g n k)) ∧ Hid (At wr F #[.slice (some ⟨E, 0, none⟩) N N, .slice (some ⟨b, 0, none⟩) m cap, cv] 95) ∧ Hid (wr.ownsRow base 2 1 (.slice (some ⟨b, 0, none⟩) m cap) m (cellsOfF m g)) ∧ Hid (wr.heap.size = w.heap.size) ∧ Hid (∀ B, Frm B F E w wr)) (fun iv _ => (m - n) - (intOf iv).toNat)
    case atStart => exact ⟨0, Nat.zero_le _, rfl, HE, HF, HL, Lib.hid rfl, Lib.hid (fun B => Frm.refl _ _ _ _)⟩
    case round =>
      clear b1 fz
      obtain ⟨k, hk, rfl, HEr, HFr, HLr, HZ, HW⟩ := hrel
      have b0 := HFr.out.cellv (i := 0) rfl
      have b1 := HFr.out.cellv (i := 1) rfl
      have f1 := HFr.out.frozen 1
      have fz := HFr.out.lt
      by_cases hlt : k < m - n
      · obtain ⟨z, hz⟩ : ∃ z : Nat, g (n + k) = z := ⟨(g (n + k)).toNat, by have := HG.out (n + k) (by omega); omega⟩
        have hzN : z < N := by have := HG.out (n + k) (by omega); omega
        have ck : wr.cell? ⟨b, n + k, none⟩ = some (.int .i64 (z : Int)) := by
          rw [HLr.out.cellAt (n + k) (by omega), cellsOfF_at (by omega), hz]
        obtain ⟨e0, e1, e2, e3⟩ := HEr.out.at_ hzN
        have ez := HEr.out.lt
        have lb := (HLr.out.lt b rfl).2
        have t0 : (wr.setCell ⟨E, z * 2 + 1, none⟩ (.pointer (some ⟨E, z * 2, none⟩))).drew.cell? ⟨F, 0, none⟩ = some (.slice (some ⟨E, 0, none⟩) N N) := by
          show (World.setCell _ _ _).cell? _ = _
          rw [World.cell?_setCell_other _ _ _ _ (fun e => by injection e; omega)]
          exact b0
        have HZz := Lib.hid (show hvP (unP p g n k) z z = unP p g n (k + 1) by show _ = hvP (unP p g n k) (g (n + k)).toNat (g (n + k)).toNat; rw [hz, Int.toNat_natCast])
        have hne : b ≠ E := hbE
        clear hz b1 f1
        go_wp2_with fail
        go_region_held3 (fun w' => w'.cell? ⟨F, 0, none⟩ = some (.slice (some ⟨E, 0, none⟩) N N))
          (first | exact b0 | exact t0 | go_keep | assumption)
          (fail)
        rename_i hSx
        clear hSx t0 b0 e0 e1 e2 e3 ck
        go_wp2
        go_roundw
        case rel =>
          have hp := HEr.out.put hzN z
          rw [HZz.out] at hp
          exact ⟨k + 1, by omega, by go_num, Lib.hid (hp.of_block rfl), Lib.hid ((HFr.out.setOther (by exact fun e => hFE e.symm) _).drew), Lib.hid ((HLr.out.kept (grown_set wr E _ _) (own_ne (fun q hq => by cases hq; exact hbE))).drew), Lib.hid (by rw [← HZ.out]; simp [World.setCell]), Lib.hid (fun B => ((HW.out B).setE (.inl rfl) _ _).drw)⟩
        case measure => simp [intOf]; omega
      · obtain rfl : k = m - n := by omega
        have HQ := Lib.hid (show UndoneF F E N b n cap (m - n) base cv p g w (.returned (.tuple #[])) (wr.setCell ⟨F, 1, none⟩ (.slice (some ⟨b, 0, none⟩) n cap)) from ⟨⟨_, rfl⟩, HEr.out.of_block (Below.heap_setCell wr ⟨F, 1, none⟩ _ E (by exact fun e => hFE e.symm)), by simpa using HFr.out.set 1 (.slice (some ⟨b, 0, none⟩) n cap), owns_pre (HLr.out.kept (grown_set wr F 1 _) (own_ne (fun q hq => by cases hq; exact hbF))) hn, by rw [← HZ.out]; simp [World.setCell], fun B => (HW.out B).setE (.inr rfl) _ _⟩)
        go_wp2
        go_end0
        exact HQ.out
theorem udj_nil (w : World) (A B : Option Addr) (n c m d : Nat) : At ((w.alloc (.cells #[.slice A n c, .slice B m d] 26)).alloc (.cells #[.slice none 0 0, .slice none 0 0] 26)) (w.heap.size + 1) #[.slice none 0 0, .slice none 0 0] 26 := by
  have h1 := At.new (w.alloc (.cells #[.slice A n c, .slice B m d] 26)) #[.slice none 0 0, .slice none 0 0] 26
  rw [World.size_alloc] at h1
  exact h1
set_option maxHeartbeats 1000000 in
theorem impl_undo_bad (w : World) (A : Option Addr) (n c : Nat) (f : Nat → Int) (B : Option Addr) (m d : Nat) (g : Nat → Int)
    (hr : Row .i64 w A n c f) (hr' : Row .i64 w B m d g) (hv : vjB n f m g = false) :
    Calls Try.prog 21 #[.agg #[.slice A n c, .slice B m d]] w (JnOut 0 f 0 g 1 w) := by
  have HC := Lib.hid (impl_forestWith_no ((w.alloc (.cells #[.slice A n c, .slice B m d] 26)).alloc (.cells #[.slice none 0 0, .slice none 0 0] 26)) A n c f B m d g none 0 0 (hr.below (udj_bel w A B n c m d) (Nat.le_refl _)) (hr'.below (udj_bel w A B n c m d) (Nat.le_refl _)) hv)
  have kx := (udj_cel w A B n c m d).1
  have k0 := (udj_cel w A B n c m d).2 0 _ rfl
  have k1 := (udj_cel w A B n c m d).2 1 _ rfl
  clear hr hr' hv k0 k1 kx
  go_enter Try.func21, Try.ntmps21
  go_wp2_with fail
  refine HC.out.mono ?_
  rintro e w1 ⟨rfl, b1⟩
  obtain ⟨hx, hz, hB⟩ := udj_boxes b1
  have HB := Lib.hid hB
  have lz := hz.lt
  have q0 : w1.cell? ⟨w.heap.size + 1, 0, none⟩ = some (.slice none 0 0) := hz.cellv (i := 0) rfl
  have q1 : w1.cell? ⟨w.heap.size + 1, 1, none⟩ = some (.slice none 0 0) := hz.cellv (i := 1) rfl
  have f0 := hz.frozen 0
  have f1 := hz.frozen 1
  clear b1 hx hz hB
  go_wp2
  refine bodyPost_ret (v := .tuple #[.agg #[.slice none 0 0, .slice none 0 0], .int .i64 1]) (by simp [results, Try.results21, go_sem, q0, q1]) rfl ⟨none, 0, none, 0, rfl, ⟨ownRow_nilU, ownRow_nilU, fun h1 h2 => absurd h2 (by omega)⟩, ?_⟩
  exact (HB.out.setCell (by simp) _).setCell (by simp) _
set_option maxHeartbeats 1000000 in
theorem impl_undo_none (w : World) (A : Option Addr) (n c : Nat) (f : Nat → Int) (B : Option Addr) (m d : Nat) (g : Nat → Int)
    (hr : Row .i64 w A n c f) (hr' : Row .i64 w B m d g) (hv : vjB n f m g = true) (hm : m = 0) :
    Calls Try.prog 21 #[.agg #[.slice A n c, .slice B m d]] w (JnOut 0 f 0 g 6 w) := by
  subst hm
  have h := impl_forestWith ((w.alloc (.cells #[.slice A n c, .slice B 0 d] 26)).alloc (.cells #[.slice none 0 0, .slice none 0 0] 26)) A n c f B 0 d g none 0 0 _ (hr.below (udj_bel w A B n c 0 d) (Nat.le_refl _)) (hr'.below (udj_bel w A B n c 0 d) (Nat.le_refl _)) (row_nil0 _) hv (by omega) true (by simp)
  rw [if_pos rfl] at h
  have HC := Lib.hid h
  clear hr hr' hv h
  go_enter Try.func21, Try.ntmps21
  go_wp2_with fail
  refine HC.out.mono ?_
  rintro e w1 ⟨F, E, lv, base, rfl, hfs, hlo, hne, hF, hE, b1⟩
  obtain ⟨Al, cl, rfl⟩ := owns_slice hlo
  obtain ⟨hx, hz, hB⟩ := udj_boxes b1
  have HB := Lib.hid hB
  have lz := hz.lt
  have q0 : w1.cell? ⟨w.heap.size + 1, 0, none⟩ = some (.slice none 0 0) := hz.cellv (i := 0) rfl
  have q1 : w1.cell? ⟨w.heap.size + 1, 1, none⟩ = some (.slice none 0 0) := hz.cellv (i := 1) rfl
  have f0 := hz.frozen 0
  have f1 := hz.frozen 1
  have l1 := hfs.box.cellv (i := 1) rfl
  have lF := hfs.box.lt
  clear b1 hx hz hB hfs hlo hne HC
  go_wp2
  refine bodyPost_ret (v := .tuple #[.agg #[.slice none 0 0, .slice none 0 0], .int .i64 6]) (by simp [results, Try.results21, go_sem, q0, q1]) rfl ⟨none, 0, none, 0, rfl, ⟨ownRow_nilU, ownRow_nilU, fun h1 h2 => absurd h2 (by omega)⟩, ?_⟩
  exact (HB.out.setCell (by simp) _).setCell (by simp) _
set_option maxHeartbeats 4000000 in
theorem impl_undo_ok (w : World) (A : Option Addr) (n c : Nat) (f : Nat → Int) (B : Option Addr) (m d : Nat) (g : Nat → Int) (z : Nat)
    (hr : Row .i64 w A n c f) (hr' : Row .i64 w B (m + 1) d g) (hv : vjB n f (m + 1) g = true) (hz : g m = z) :
    Calls Try.prog 21 #[.agg #[.slice A n c, .slice B (m + 1) d]] w (JnOut n (putF f z z) m g 0 w) := by
  have hJ := vj_yes hv
  have hn1 := hJ.n1
  have hn2 := hJ.n2
  have hml := hJ.le
  have hzn : z < n := by have := (hJ.logs m (by omega)).2.1; omega
  have HLG := Lib.hid (fun i (hi : i < m + 1) => (show 0 ≤ g i ∧ g i < n from ⟨(hJ.logs i hi).1, (hJ.logs i hi).2.1⟩))
  have HWF := Lib.hid hr.2.2.1
  have HWG := Lib.hid hr'.2.2.1
  have HPU := Lib.hid (show ∀ x, x < n → unP (pNat f) g m 1 x < n by
    intro x hx
    show hvP (pNat f) (g m).toNat (g m).toNat x < n
    unfold hvP pNat
    have := hJ.pars x hx
    split <;> omega)
  have HPC := Lib.hid (show cellsOfF n (fun k => ((unP (pNat f) g m 1 k : Nat) : Int)) = cellsOfF n (putF f z z) by
    unfold cellsOfF
    refine List.map_congr_left fun i hi => ?_
    have hi' := List.mem_range.1 hi
    have hp := hJ.pars i hi'
    show Value.int .i64 ((hvP (pNat f) (g m).toNat (g m).toNat i : Nat) : Int) = .int .i64 (putF f z z i)
    unfold hvP pNat putF
    rw [hz, Int.toNat_natCast]
    by_cases e : i = z
    · rw [if_pos e, if_pos e]
    · rw [if_neg e, if_neg e, Int.toNat_of_nonneg hp.1])
  have h := impl_forestWith ((w.alloc (.cells #[.slice A n c, .slice B (m + 1) d] 26)).alloc (.cells #[.slice none 0 0, .slice none 0 0] 26)) A n c f B (m + 1) d g none 0 0 _ (hr.below (udj_bel w A B n c (m + 1) d) (Nat.le_refl _)) (hr'.below (udj_bel w A B n c (m + 1) d) (Nat.le_refl _)) (row_nil0 _) hv (by omega) true (by simp)
  rw [if_pos rfl] at h
  have HC := Lib.hid h
  have HX4 := Lib.hid (show ((w.alloc (.cells #[.slice A n c, .slice B (m + 1) d] 26)).alloc (.cells #[.slice none 0 0, .slice none 0 0] 26)).heap.size = w.heap.size + 2 by simp)
  clear hr hr' hv h hJ hz
  go_enter Try.func21, Try.ntmps21
  go_wp2_with fail
  refine HC.out.mono ?_
  rintro e w1 ⟨F, E, lv, base, rfl, hfs, hlo, hne, hF, hE, b1⟩
  rw [HX4.out] at hF hE hlo
  obtain ⟨hx, hz, hB⟩ := udj_boxes b1
  obtain ⟨gl, cl, rfl⟩ : ∃ gl cl, lv = .slice (some ⟨gl, 0, none⟩) (m + 1) cl := by
    rcases hlo.2 with ⟨-, e⟩ | ⟨g1, c1, cur, e, -⟩
    · omega
    · exact ⟨g1, c1, e⟩
  have l1 := hfs.box.cellv (i := 1) rfl
  have lF := hfs.box.lt
  have HZ := Lib.hid hz
  have HB := Lib.hid hB
  have HFB := Lib.hid hfs.box
  have HEL := Lib.hid hfs.elm
  have HLO := Lib.hid hlo
  have hne1 : gl ≠ F := (hne gl rfl).2.1
  have hne2 : gl ≠ E := (hne gl rfl).2.2
  have hFE := hfs.ne
  have lE := hfs.elm.lt
  have lG := (hlo.lt gl rfl).2
  have lz := hz.lt
  clear b1 hx hz hB hfs hlo hne HC HX4
  go_wp2_with fail
  clear l1
  refine (impl_undo_f w1 F E n (m + 1) m gl cl (w.heap.size + 2) _ (pNat f) g HFB.out HEL.out HLO.out hne1 hne2 hFE HLG.out (by omega) (by omega)).mono ?_
  rintro e w2 ⟨⟨v2, rfl⟩, hE2, hF2, hL2, hs2, hfr⟩
  rw [show m + 1 - m = 1 by omega] at hE2
  have HB2 := Lib.hid (HB.out.trans ((hfr w1.heap.size).below (B := w.heap.size) (by omega) (by omega) (by omega)))
  have HZ2 := Lib.hid (HZ.out.of_block ((hfr w1.heap.size).block (w.heap.size + 1) (by omega) (by omega) (by omega)))
  have HE2 := Lib.hid hE2
  have HF2 := Lib.hid hF2
  have HL2 := Lib.hid hL2
  clear hE2 hF2 hL2 hfr HB HZ HFB HEL HLO
  go_wp2_with fail
  refine (impl_joined w2 F E n (some ⟨gl, 0, none⟩) m cl _ HE2.out HF2.out HPU.out hn1 hn2).mono ?_
  rintro e w4 ⟨v4, rfl, hown, b4⟩
  obtain ⟨A4, c4, rfl⟩ := owns_slice hown
  rw [HPC.out] at hown
  have HO4 := Lib.hid hown
  have HZ4 := Lib.hid (HZ2.out.below b4 HZ2.out.lt)
  have HL4 := Lib.hid (owns_belowS HL2.out b4)
  have HB4 := Lib.hid (HB2.out.trans (b4.mono HB2.out.size))
  have lz := HZ4.out.lt
  have q0 : w4.cell? ⟨w.heap.size + 1, 0, none⟩ = some (.slice none 0 0) := HZ4.out.cellv (i := 0) rfl
  have q1 : w4.cell? ⟨w.heap.size + 1, 1, none⟩ = some (.slice none 0 0) := HZ4.out.cellv (i := 1) rfl
  have f0' := HZ4.out.frozen 0
  have f1' := HZ4.out.frozen 1
  clear b4 hown
  go_wp2
  refine bodyPost_ret (v := .tuple #[.agg #[.slice A4 n c4, .slice (some ⟨gl, 0, none⟩) m cl], .int .i64 0]) (by simp [results, Try.results21, go_sem, q0, q1]) rfl ⟨A4, c4, some ⟨gl, 0, none⟩, cl, rfl, ⟨?_, ?_, ?_⟩, ?_⟩
  · exact (((ownRow_any HO4.out (fun i hi => by
      unfold putF
      split
      · exact WalkArith.wf_i64 (by omega)
      · exact HWF.out i hi)).setLow (by omega) _ _).setLow (by omega) _ _).mono (by omega)
  · exact (((ownRow_any HL4.out (fun i hi => HWG.out i (by omega))).setLow (by omega) _ _).setLow (by omega) _ _).mono (by omega)
  · intro h1 h2 q hx hy
    have hx' : (Value.slice A4 n c4).ownBlock = some q := by
      cases A4 with
      | none => simp [blk] at hx
      | some ad => simpa [blk, Value.ownBlock] using hx
    have := (HO4.out.lt q hx').1
    simp [blk] at hy
    omega
  · exact (HB4.out.setCell (by simp) _).setCell (by simp) _
end Go.Proofs.Ytneknajeecgnoaa.Base
