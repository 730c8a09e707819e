/-
  Several texts in one.
-/
import Derived.Test.YtjgclemfehfgiaaDoorGB
import Derived.Test.YtjgclemfehfgiaaDoorGA
import Derived.Test.YtjgclemfehfgiaaDoorSet
import Derived.Test.YtjgclemfehfgiaaDoorWlk
import Derived.Lib.MinMax
import Derived.Test.YtjgclemfehfgiaaDoorTrn
import Derived.Test.YtjgclemfehfgiaaDoorClone
import Derived.Laws.AppendOwnNone
namespace Go.Proofs.YtjgclemfehfgiaaDoor.Base
open Go Go.RowKit
set_option linter.unusedVariables false
set_option linter.unusedSimpArgs false

/-- the parents behind taking the entries n .. n + k - 1 of the log back -/
def unP (p : Nat → Nat) (g : Nat → Int) (n : Nat) : Nat → Nat → Nat
  | 0 => p
  | k + 1 => hvP (unP p g n k) (g (n + k)).toNat (g (n + k)).toNat
theorem owns_pre {w : World} {base b m n cap : Nat} {g : Nat → Int} (h : w.ownsRow base 2 1 (.slice (some ⟨b, 0, none⟩) m cap) m (cellsOfF m g)) (hn : n ≤ m) : w.ownsRow base 2 1 (.slice (some ⟨b, 0, none⟩) n cap) n (cellsOfF n g) := by
  refine ⟨by rw [cellsOfF_len]; omega, ?_⟩
  rcases h.2 with ⟨e, e2⟩ | ⟨g', cap', cur, e, h1, h2, h3, h4, h5, h6⟩
  · cases e
  · injection e with e1 e2 e3
    injection e1 with e1
    injection e1 with e1 _ _
    subst e1 e3
    refine .inr ⟨b, cap, cur, rfl, h1, h2, by omega, h4, h5, ?_⟩
    have h7 : (cur.toList.take (m * 1)).take (n * 1) = (cellsOfF m g).take (n * 1) := by rw [h6]
    rw [List.take_take] at h7
    rw [show min (n * 1) (m * 1) = n * 1 by omega] at h7
    rw [h7]
    unfold cellsOfF
    rw [← List.map_take, List.take_range, show min (n * 1) m = n by omega]
/-- what undo leaves -/
def UndoneF (F E N b n cap k base : Nat) (cv : Value) (p : Nat → Nat) (g : Nat → Int) (w : World) (e : Ending) (w' : World) : Prop :=
  (∃ v, e = .returned v) ∧ Elm w' E N (unP p g n k) ∧ At w' F #[.slice (some ⟨E, 0, none⟩) N N, .slice (some ⟨b, 0, none⟩) n cap, cv] 155 ∧ w'.ownsRow base 2 1 (.slice (some ⟨b, 0, none⟩) n cap) n (cellsOfF n g) ∧ w'.heap.size = w.heap.size ∧ ∀ B, Frm B F E w w'
theorem Frm.setE {B F E : Nat} {w A : World} (h : Frm B F E w A) {x : Nat} (hx : x = E ∨ x = F) (i : Nat) (v : Value) : Frm B F E w (A.setCell ⟨x, i, none⟩ v) :=
  ⟨h.os, h.tape, h.output, by simpa [World.setCell] using h.size, fun k h1 h2 h3 => (Below.heap_setCell A ⟨x, i, none⟩ v k (by rcases hx with rfl | rfl <;> (intro e; simp at e; omega))).trans (h.block k h1 h2 h3)⟩
theorem Frm.drw {B F E : Nat} {w A : World} (h : Frm B F E w A) : Frm B F E w A.drew := ⟨h.os, h.tape, h.output, h.size, fun k h1 h2 h3 => h.block k h1 h2 h3⟩
set_option maxHeartbeats 2000000 in
theorem impl_undo_f (w : World) (F E N m n b cap base : Nat) (cv : Value) (p : Nat → Nat) (g : Nat → Int) (hF : At w F #[.slice (some ⟨E, 0, none⟩) N N, .slice (some ⟨b, 0, none⟩) m cap, cv] 155) (hE : Elm w E N p)
    (hlog : w.ownsRow base 2 1 (.slice (some ⟨b, 0, none⟩) m cap) m (cellsOfF m g)) (hbF : b ≠ F) (hbE : b ≠ E) (hFE : F ≠ E) (hg : ∀ i, i < m → 0 ≤ g i ∧ g i < N) (hn : n ≤ m) (hN : N ≤ 1000) :
    Calls Tryd.prog 158 #[.pointer (some ⟨F, 0, none⟩), .int .i64 (n : Int)] w (UndoneF F E N b n cap (m - n) base cv p g w) := by
  have HF := Lib.hid hF
  have HE := Lib.hid hE
  have HL := Lib.hid hlog
  have HG := Lib.hid hg
  have b1 := hF.cellv (i := 1) rfl
  have fz := hF.lt
  obtain ⟨g0, cap0, cur0, e0, hlb, hl2, hmc, hcm, -⟩ := hlog.2.resolve_left (fun h => by cases h.1)
  injection e0 with e1 e2 e3
  injection e1 with e1
  injection e1 with e1 _ _
  subst e1 e3
  clear hF hE hlog hg e2 hl2
  unfold maxLen at hcm
  have hnm : (n : Int) ≤ (m : Int) := by omega
  by_cases hcn : cap = n
  · obtain rfl : m = n := by omega
    subst hcn
    rw [Nat.sub_self]
    have HZ := Lib.hid (show UndoneF F E N b cap cap 0 base cv p g w (.returned (.tuple #[])) (w.setCell ⟨F, 1, none⟩ (.slice (some ⟨b, 0, none⟩) cap cap)) from ⟨⟨_, rfl⟩, HE.out.of_block (Below.heap_setCell w ⟨F, 1, none⟩ _ E (by exact fun e => hFE e.symm)), by simpa using HF.out.set 1 (.slice (some ⟨b, 0, none⟩) cap cap), HL.out.kept (grown_set w F 1 _) (own_ne (fun q hq => by cases hq; exact hbF)), by simp [World.setCell], fun B => (Frm.refl B F E w).setE (.inr rfl) _ _⟩)
    go_enter Tryd.func158, Tryd.ntmps158
    go_wp2
    go_loopw [13] (fun iv wr => iv = .int .i64 0 ∧ wr = w) (fun iv _ => 0)
    case atStart => exact ⟨rfl, rfl⟩
    case round =>
      obtain ⟨rfl, hw⟩ := hrel
      subst hw
      have f1 := HF.out.frozen 1
      go_wp2
      go_end0
      exact HZ.out
  · have hcn2 : n < cap ∨ n = cap ∧ False := by omega
    go_enter Tryd.func158, Tryd.ntmps158
    go_wp2
    go_loopw [13] (fun iv wr => ∃ k : Nat, k ≤ m - n ∧ iv = .int .i64 (k : Int) ∧ Hid (Elm wr E N (unP p g n k)) ∧ Hid (At wr F #[.slice (some ⟨E, 0, none⟩) N N, .slice (some ⟨b, 0, none⟩) m cap, cv] 155) ∧ Hid (wr.ownsRow base 2 1 (.slice (some ⟨b, 0, none⟩) m cap) m (cellsOfF m g)) ∧ Hid (wr.heap.size = w.heap.size) ∧ Hid (∀ B, Frm B F E w wr)) (fun iv _ => (m - n) - (intOf iv).toNat)
    case atStart => exact ⟨0, Nat.zero_le _, rfl, HE, HF, HL, Lib.hid rfl, Lib.hid (fun B => Frm.refl _ _ _ _)⟩
    case round =>
      clear b1 fz
      obtain ⟨k, hk, rfl, HEr, HFr, HLr, HZ, HW⟩ := hrel
      have b0 := HFr.out.cellv (i := 0) rfl
      have b1 := HFr.out.cellv (i := 1) rfl
      have f1 := HFr.out.frozen 1
      have fz := HFr.out.lt
      by_cases hlt : k < m - n
      · obtain ⟨z, hz⟩ : ∃ z : Nat, g (n + k) = z := ⟨(g (n + k)).toNat, by have := HG.out (n + k) (by omega); omega⟩
        have hzN : z < N := by have := HG.out (n + k) (by omega); omega
        have ck : wr.cell? ⟨b, n + k, none⟩ = some (.int .i64 (z : Int)) := by
          rw [HLr.out.cellAt (n + k) (by omega), cellsOfF_at (by omega), hz]
        obtain ⟨e0, e1, e2, e3⟩ := HEr.out.at_ hzN
        have ez := HEr.out.lt
        have lb := (HLr.out.lt b rfl).2
        have t0 : (wr.setCell ⟨E, z * 2 + 1, none⟩ (.pointer (some ⟨E, z * 2, none⟩))).drew.cell? ⟨F, 0, none⟩ = some (.slice (some ⟨E, 0, none⟩) N N) := by
          show (World.setCell _ _ _).cell? _ = _
          rw [World.cell?_setCell_other _ _ _ _ (fun e => by injection e; omega)]
          exact b0
        have HZz := Lib.hid (show hvP (unP p g n k) z z = unP p g n (k + 1) by show _ = hvP (unP p g n k) (g (n + k)).toNat (g (n + k)).toNat; rw [hz, Int.toNat_natCast])
        have hne : b ≠ E := hbE
        clear hz b1 f1
        go_wp2_with fail
        go_region_held3 (fun w' => w'.cell? ⟨F, 0, none⟩ = some (.slice (some ⟨E, 0, none⟩) N N))
          (first | exact b0 | exact t0 | go_keep | assumption)
          (fail)
        rename_i hSx
        clear hSx t0 b0 e0 e1 e2 e3 ck
        go_wp2
        go_roundw
        case rel =>
          have hp := HEr.out.put hzN z
          rw [HZz.out] at hp
          exact ⟨k + 1, by omega, by go_num, Lib.hid (hp.of_block rfl), Lib.hid ((HFr.out.setOther (by exact fun e => hFE e.symm) _).drew), Lib.hid ((HLr.out.kept (grown_set wr E _ _) (own_ne (fun q hq => by cases hq; exact hbE))).drew), Lib.hid (by rw [← HZ.out]; simp [World.setCell]), Lib.hid (fun B => ((HW.out B).setE (.inl rfl) _ _).drw)⟩
        case measure => simp [intOf]; omega
      · obtain rfl : k = m - n := by omega
        have HQ := Lib.hid (show UndoneF F E N b n cap (m - n) base cv p g w (.returned (.tuple #[])) (wr.setCell ⟨F, 1, none⟩ (.slice (some ⟨b, 0, none⟩) n cap)) from ⟨⟨_, rfl⟩, HEr.out.of_block (Below.heap_setCell wr ⟨F, 1, none⟩ _ E (by exact fun e => hFE e.symm)), by simpa using HFr.out.set 1 (.slice (some ⟨b, 0, none⟩) n cap), owns_pre (HLr.out.kept (grown_set wr F 1 _) (own_ne (fun q hq => by cases hq; exact hbF))) hn, by rw [← HZ.out]; simp [World.setCell], fun B => (HW.out B).setE (.inr rfl) _ _⟩)
        go_wp2
        go_end0
        exact HQ.out
set_option maxHeartbeats 2000000 in
theorem impl_undo_d (u : FrameMode) (w : World) (F E N m n b cap base : Nat) (cv : Value) (p : Nat → Nat) (g : Nat → Int) (hF : At w F #[.slice (some ⟨E, 0, none⟩) N N, .slice (some ⟨b, 0, none⟩) m cap, cv] 155) (hE : Elm w E N p)
    (hlog : w.ownsRow base 2 1 (.slice (some ⟨b, 0, none⟩) m cap) m (cellsOfF m g)) (hbF : b ≠ F) (hbE : b ≠ E) (hFE : F ≠ E) (hg : ∀ i, i < m → 0 ≤ g i ∧ g i < N) (hn : n ≤ m) (hN : N ≤ 1000) :
    CallsD Tryd.prog 158 #[.pointer (some ⟨F, 0, none⟩), .int .i64 (n : Int)] u w (fun e u' w' => u' = u ∧ UndoneF F E N b n cap (m - n) base cv p g w e w') := by
  have HF := Lib.hid hF
  have HE := Lib.hid hE
  have HL := Lib.hid hlog
  have HG := Lib.hid hg
  have b1 := hF.cellv (i := 1) rfl
  have fz := hF.lt
  obtain ⟨g0, cap0, cur0, e0, hlb, hl2, hmc, hcm, -⟩ := hlog.2.resolve_left (fun h => by cases h.1)
  injection e0 with e1 e2 e3
  injection e1 with e1
  injection e1 with e1 _ _
  subst e1 e3
  clear hF hE hlog hg e2 hl2
  unfold maxLen at hcm
  have hnm : (n : Int) ≤ (m : Int) := by omega
  by_cases hcn : cap = n
  · obtain rfl : m = n := by omega
    subst hcn
    rw [Nat.sub_self]
    have HZ := Lib.hid (show UndoneF F E N b cap cap 0 base cv p g w (.returned (.tuple #[])) (w.setCell ⟨F, 1, none⟩ (.slice (some ⟨b, 0, none⟩) cap cap)) from ⟨⟨_, rfl⟩, HE.out.of_block (Below.heap_setCell w ⟨F, 1, none⟩ _ E (by exact fun e => hFE e.symm)), by simpa using HF.out.set 1 (.slice (some ⟨b, 0, none⟩) cap cap), HL.out.kept (grown_set w F 1 _) (own_ne (fun q hq => by cases hq; exact hbF)), by simp [World.setCell], fun B => (Frm.refl B F E w).setE (.inr rfl) _ _⟩)
    go_enter_d Tryd.func158, Tryd.ntmps158
    go_wp2
    go_loopw [13] (fun iv wr => iv = .int .i64 0 ∧ wr = w) (fun iv _ => 0)
    case atStart => exact ⟨rfl, rfl⟩
    case round =>
      obtain ⟨rfl, hw⟩ := hrel
      subst hw
      have f1 := HF.out.frozen 1
      go_wp2
      go_end0
      exact HZ.out
  · have hcn2 : n < cap ∨ n = cap ∧ False := by omega
    go_enter_d Tryd.func158, Tryd.ntmps158
    go_wp2
    go_loopw [13] (fun iv wr => ∃ k : Nat, k ≤ m - n ∧ iv = .int .i64 (k : Int) ∧ Hid (Elm wr E N (unP p g n k)) ∧ Hid (At wr F #[.slice (some ⟨E, 0, none⟩) N N, .slice (some ⟨b, 0, none⟩) m cap, cv] 155) ∧ Hid (wr.ownsRow base 2 1 (.slice (some ⟨b, 0, none⟩) m cap) m (cellsOfF m g)) ∧ Hid (wr.heap.size = w.heap.size) ∧ Hid (∀ B, Frm B F E w wr)) (fun iv _ => (m - n) - (intOf iv).toNat)
    case atStart => exact ⟨0, Nat.zero_le _, rfl, HE, HF, HL, Lib.hid rfl, Lib.hid (fun B => Frm.refl _ _ _ _)⟩
    case round =>
      clear b1 fz
      obtain ⟨k, hk, rfl, HEr, HFr, HLr, HZ, HW⟩ := hrel
      have b0 := HFr.out.cellv (i := 0) rfl
      have b1 := HFr.out.cellv (i := 1) rfl
      have f1 := HFr.out.frozen 1
      have fz := HFr.out.lt
      by_cases hlt : k < m - n
      · obtain ⟨z, hz⟩ : ∃ z : Nat, g (n + k) = z := ⟨(g (n + k)).toNat, by have := HG.out (n + k) (by omega); omega⟩
        have hzN : z < N := by have := HG.out (n + k) (by omega); omega
        have ck : wr.cell? ⟨b, n + k, none⟩ = some (.int .i64 (z : Int)) := by
          rw [HLr.out.cellAt (n + k) (by omega), cellsOfF_at (by omega), hz]
        obtain ⟨e0, e1, e2, e3⟩ := HEr.out.at_ hzN
        have ez := HEr.out.lt
        have lb := (HLr.out.lt b rfl).2
        have t0 : (wr.setCell ⟨E, z * 2 + 1, none⟩ (.pointer (some ⟨E, z * 2, none⟩))).drew.cell? ⟨F, 0, none⟩ = some (.slice (some ⟨E, 0, none⟩) N N) := by
          show (World.setCell _ _ _).cell? _ = _
          rw [World.cell?_setCell_other _ _ _ _ (fun e => by injection e; omega)]
          exact b0
        have HZz := Lib.hid (show hvP (unP p g n k) z z = unP p g n (k + 1) by show _ = hvP (unP p g n k) (g (n + k)).toNat (g (n + k)).toNat; rw [hz, Int.toNat_natCast])
        have hne : b ≠ E := hbE
        clear hz b1 f1
        go_wp2_with fail
        go_region_held3 (fun w' => w'.cell? ⟨F, 0, none⟩ = some (.slice (some ⟨E, 0, none⟩) N N))
          (first | exact b0 | exact t0 | go_keep | assumption)
          (fail)
        rename_i hSx
        clear hSx t0 b0 e0 e1 e2 e3 ck
        go_wp2
        go_roundw
        case rel =>
          have hp := HEr.out.put hzN z
          rw [HZz.out] at hp
          exact ⟨k + 1, by omega, by go_num, Lib.hid (hp.of_block rfl), Lib.hid ((HFr.out.setOther (by exact fun e => hFE e.symm) _).drew), Lib.hid ((HLr.out.kept (grown_set wr E _ _) (own_ne (fun q hq => by cases hq; exact hbE))).drew), Lib.hid (by rw [← HZ.out]; simp [World.setCell]), Lib.hid (fun B => ((HW.out B).setE (.inl rfl) _ _).drw)⟩
        case measure => simp [intOf]; omega
      · obtain rfl : k = m - n := by omega
        have HQ := Lib.hid (show UndoneF F E N b n cap (m - n) base cv p g w (.returned (.tuple #[])) (wr.setCell ⟨F, 1, none⟩ (.slice (some ⟨b, 0, none⟩) n cap)) from ⟨⟨_, rfl⟩, HEr.out.of_block (Below.heap_setCell wr ⟨F, 1, none⟩ _ E (by exact fun e => hFE e.symm)), by simpa using HFr.out.set 1 (.slice (some ⟨b, 0, none⟩) n cap), owns_pre (HLr.out.kept (grown_set wr F 1 _) (own_ne (fun q hq => by cases hq; exact hbF))) hn, by rw [← HZ.out]; simp [World.setCell], fun B => (HW.out B).setE (.inr rfl) _ _⟩)
        go_wp2
        go_end0
        exact HQ.out
theorem impl_undo_nil_d (u : FrameMode) (w : World) (F E N : Nat) (cv : Value) (hF : At w F #[.slice (some ⟨E, 0, none⟩) N N, .slice none 0 0, cv] 155) :
    CallsD Tryd.prog 158 #[.pointer (some ⟨F, 0, none⟩), .int .i64 0] u w (fun e u' w' => u' = u ∧ (∃ v, e = .returned v) ∧ w' = w.setCell ⟨F, 1, none⟩ (.slice none 0 0)) := by
  have b1 := hF.cellv (i := 1) rfl
  have f1 := hF.frozen 1
  have fz := hF.lt
  clear hF
  go_enter_d Tryd.func158, Tryd.ntmps158
  go_wp2
  go_loopw [13] (fun iv wr => iv = .int .i64 0 ∧ wr = w) (fun iv _ => 0)
  case atStart => exact ⟨rfl, rfl⟩
  case round =>
    obtain ⟨rfl, hw⟩ := hrel
    subst hw
    go_wp2
    go_end0
    exact ⟨⟨_, rfl⟩, rfl⟩
end Go.Proofs.YtjgclemfehfgiaaDoor.Base
namespace Go.Proofs.YtjgclemfehfgiaaDoor.Base
set_option linter.unusedVariables false
set_option linter.unusedSimpArgs false

/-- the parents pj; the same with shortened paths ph, as the changes L tell; a rank, at most m -/
structure Ju (n : Nat) (pj ph rk : Nat → Nat) (L : List (Nat × Nat)) (m : Nat) : Prop where
  fh : FR n ph rk
  fj : FR n pj rk
  le : ∀ x, x < n → rk x ≤ m
  r0 : ∀ x, x < n → pj x = x → rk x = 0
  rts : ∀ x y, x < n → (Rt ph x y ↔ Rt pj x y)
  und : ∀ x, undo L ph x = pj x
  nrt : ∀ c ∈ L, c.1 < n ∧ pj c.1 ≠ c.1
section
variable {n m : Nat} {pj ph rk : Nat → Nat} {L : List (Nat × Nat)}
theorem Ju.root (h : Ju n pj ph rk L m) {x : Nat} (hx : x < n) : ph x = x ↔ pj x = x :=
  ⟨fun e => ((h.rts x x hx).1 (.top e)).root, fun e => ((h.rts x x hx).2 (.top e)).root⟩
theorem Ju.stand (h : Ju n pj ph rk L m) {p' : Nat → Nat} {L' : List (Nat × Nat)} (hf : FR n p' rk) (hq : ∀ x y, x < n → (Rt p' x y ↔ Rt ph x y)) (hu : ∀ x, undo L' p' x = undo L ph x)
    (hd : ∀ c ∈ L', c ∈ L ∨ (c.1 < n ∧ ph c.1 ≠ c.1)) : Ju n pj p' rk L' m :=
  ⟨hf, h.fj, h.le, h.r0, fun x y hx => (hq x y hx).trans (h.rts x y hx), fun x => (hu x).trans (h.und x), fun c hc => by
    rcases hd c hc with h1 | h1
    · exact h.nrt c h1
    · exact ⟨h1.1, fun e => h1.2 ((h.root h1.1).2 e)⟩⟩
theorem Ju.first {p : Nat → Nat} (hf : FR n p rk) (hl : ∀ x, x < n → rk x ≤ m) (h0 : ∀ x, x < n → p x = x → rk x = 0) : Ju n p p rk [] m :=
  ⟨hf, hf, hl, h0, fun _ _ _ => Iff.rfl, fun _ => rfl, fun c hc => by cases hc⟩
/-- at the end the paths are restored -/
theorem Ju.last (h : Ju n pj ph rk L m) : Ju n pj pj rk [] m := .first h.fj h.le h.r0
def rkU (rk : Nat → Nat) (x : Nat) : Nat → Nat := fun z => if z = x then 1 else if rk z = 0 then 0 else rk z + 1
theorem fr_join {q : Nat → Nat} (hf : FR n q rk) {x y : Nat} (hy0 : rk y = 0) (hne : x ≠ y) (hyn : y < n) : FR n (hvP q x y) (rkU rk x) := by
  refine ⟨fun z hz => ?_, fun z hz => ?_⟩
  · unfold hvP
    split
    · exact hyn
    · exact hf.lt z hz
  · by_cases e : z = x
    · subst e
      refine .inr ?_
      rw [show hvP q z y z = y from if_pos rfl]
      unfold rkU
      rw [if_neg (fun e => hne e.symm), if_pos hy0, if_pos rfl]
      exact Nat.one_pos
    · rw [show hvP q x y z = q z from if_neg e]
      rcases hf.dn z hz with h1 | h1
      · exact .inl h1
      · refine .inr ?_
        unfold rkU
        rw [if_neg e]
        split <;> split <;> (try split) <;> omega
theorem Ju.join (h : Ju n pj ph rk L m) {x y : Nat} (hx : pj x = x) (hy : pj y = y) (hne : x ≠ y) (hxn : x < n) (hyn : y < n) : Ju n (hvP pj x y) (hvP ph x y) (rkU rk x) L (m + 1) := by
  have hy0 := h.r0 y hyn hy
  have hx' := (h.root hxn).2 hx
  have hy' := (h.root hyn).2 hy
  have hLx : ∀ c ∈ L, c.1 ≠ x := fun c hc e => (h.nrt c hc).2 (by rw [e]; exact hx)
  refine ⟨fr_join h.fh hy0 hne hyn, fr_join h.fj hy0 hne hyn, fun z hz => ?_, fun z hz e => ?_, fun z r hz => ?_, fun t => ?_, fun c hc => ?_⟩
  · have := h.le z hz
    unfold rkU
    split
    · omega
    · split <;> omega
  · unfold rkU
    by_cases ez : z = x
    · subst ez
      rw [show hvP pj z y z = y from if_pos rfl] at e
      exact absurd e.symm hne
    · rw [show hvP pj x y z = pj z from if_neg ez] at e
      rw [if_neg ez, if_pos (h.r0 z hz e)]
  · rw [(FR.join h.fh hx' hy' hne hxn hyn).2 z r hz, (FR.join h.fj hx hy hne hxn hyn).2 z r hz, h.rts z x hz, h.rts z r hz]
  · rw [undo_other L ph t hLx]
    unfold hvP
    rw [h.und t]
  · refine ⟨(h.nrt c hc).1, ?_⟩
    rw [show hvP pj x y c.1 = pj c.1 from if_neg (hLx c hc)]
    exact (h.nrt c hc).2
end
/-- the log grows from m0 to m1 while the parents p0 become p1 -/
structure Lg (n : Nat) (p0 p1 : Nat → Nat) (m0 m1 : Nat) (g0 g1 : Nat → Int) : Prop where
  le : m0 ≤ m1
  old : ∀ i, i < m0 → g1 i = g0 i
  new : ∀ i, m0 ≤ i → i < m1 → ∃ z : Nat, g1 i = z ∧ z < n ∧ p0 z = z
  chg : ∀ x, p1 x = p0 x ∨ ∃ i, m0 ≤ i ∧ i < m1 ∧ g1 i = (x : Int)
  cnt : nRt n p1 + m1 = nRt n p0 + m0
section
variable {n m0 m : Nat} {p0 p : Nat → Nat} {g0 g : Nat → Int}
theorem Lg.refl (n : Nat) (p : Nat → Nat) (m : Nat) (g : Nat → Int) : Lg n p p m m g g := ⟨Nat.le_refl _, fun _ _ => rfl, fun i h1 h2 => by omega, fun _ => .inl rfl, rfl⟩
theorem Lg.snoc (h : Lg n p0 p m0 m g0 g) {x y : Nat} (hx : p x = x) (hne : x ≠ y) (hxn : x < n) : Lg n p0 (hvP p x y) m0 (m + 1) g0 (putF g m (x : Int)) := by
  have hpx : p0 x = x := by
    rcases h.chg x with h1 | ⟨i, h1, h2, h3⟩
    · rw [← h1]; exact hx
    · obtain ⟨z, e1, e2, e3⟩ := h.new i h1 h2
      rw [h3] at e1
      obtain rfl : x = z := by omega
      exact e3
  have hlt := h.le
  refine ⟨by omega, fun i hi => ?_, fun i h1 h2 => ?_, fun t => ?_, ?_⟩
  · unfold putF
    rw [if_neg (by omega)]
    exact h.old i hi
  · unfold putF
    by_cases e : i = m
    · rw [if_pos e]; exact ⟨x, rfl, hxn, hpx⟩
    · rw [if_neg e]; exact h.new i h1 (by omega)
  · by_cases e : t = x
    · subst e
      exact .inr ⟨m, hlt, Nat.lt_succ_self _, by unfold putF; rw [if_pos rfl]⟩
    · rcases h.chg t with h1 | ⟨i, h1, h2, h3⟩
      · exact .inl (by rw [show hvP p x y t = p t from if_neg e]; exact h1)
      · exact .inr ⟨i, h1, by omega, by unfold putF; rw [if_neg (by omega)]; exact h3⟩
  · have h1 := nRt_join hx hne hxn (n := n)
    have h2 := h.cnt
    omega
theorem unP_key (p : Nat → Nat) (g : Nat → Int) (n : Nat) : ∀ k x, (unP p g n k x = x ∧ ∃ i, i < k ∧ (g (n + i)).toNat = x) ∨ (unP p g n k x = p x ∧ ∀ i, i < k → (g (n + i)).toNat ≠ x)
  | 0, x => .inr ⟨rfl, fun i hi => absurd hi (Nat.not_lt_zero _)⟩
  | k + 1, x => by
    show ((if x = (g (n + k)).toNat then (g (n + k)).toNat else unP p g n k x) = x ∧ _) ∨ ((if x = (g (n + k)).toNat then (g (n + k)).toNat else unP p g n k x) = p x ∧ _)
    by_cases e : x = (g (n + k)).toNat
    · rw [if_pos e]
      exact .inl ⟨e.symm, k, Nat.lt_succ_self _, e.symm⟩
    · rw [if_neg e]
      rcases unP_key p g n k x with ⟨h1, i, h2, h3⟩ | ⟨h1, h2⟩
      · exact .inl ⟨h1, i, by omega, h3⟩
      · refine .inr ⟨h1, fun i hi => ?_⟩
        rcases Nat.lt_succ_iff_lt_or_eq.1 hi with h4 | rfl
        · exact h2 i h4
        · exact fun h => e h.symm
theorem Lg.back (h : Lg n p0 p m0 m g0 g) (x : Nat) : unP p g m0 (m - m0) x = p0 x := by
  have hle := h.le
  rcases unP_key p g m0 (m - m0) x with ⟨h1, i, h2, h3⟩ | ⟨h1, h2⟩
  · obtain ⟨z, e1, e2, e3⟩ := h.new (m0 + i) (by omega) (by omega)
    rw [e1, Int.toNat_natCast] at h3
    subst h3
    rw [h1, e3]
  · rw [h1]
    rcases h.chg x with h3 | ⟨i, h3, h4, h5⟩
    · exact h3
    · have := h2 (i - m0) (by omega)
      rw [show m0 + (i - m0) = i by omega, h5] at this
      exact absurd (Int.toNat_natCast x) this
theorem Lg.trans {m2 : Nat} {p2 : Nat → Nat} {g2 : Nat → Int} (h : Lg n p0 p m0 m g0 g) (k : Lg n p p2 m m2 g g2) : Lg n p0 p2 m0 m2 g0 g2 := by
  have l1 := h.le
  have l2 := k.le
  refine ⟨by omega, fun i hi => by rw [k.old i (by omega), h.old i hi], fun i h1 h2 => ?_, fun x => ?_, by have := h.cnt; have := k.cnt; omega⟩
  · by_cases hi : i < m
    · rw [k.old i hi]; exact h.new i h1 hi
    · obtain ⟨z, e1, e2, e3⟩ := k.new i (by omega) h2
      refine ⟨z, e1, e2, ?_⟩
      rcases h.chg z with h3 | ⟨q, h3, h4, h5⟩
      · rw [← h3]; exact e3
      · obtain ⟨z', e4, e5, e6⟩ := h.new q h3 h4
        rw [h5] at e4
        obtain rfl : z = z' := by omega
        exact e6
  · rcases k.chg x with h1 | ⟨i, h1, h2, h3⟩
    · rcases h.chg x with h4 | ⟨i, h4, h5, h6⟩
      · exact .inl (h1.trans h4)
      · exact .inr ⟨i, h4, by omega, by rw [k.old i h5]; exact h6⟩
    · exact .inr ⟨i, by omega, h2, h3⟩
end
theorem Jns.snoc {p q r : Nat → Nat} {l : List (Nat × Nat)} {c : Nat × Nat} (h : Jns p l q) (k : Jns q [c] r) : Jns p (l ++ [c]) r := by
  induction h with
  | nil => exact k
  | same h1 h2 _ ih => exact .same h1 h2 (ih k)
  | diff h1 h2 h3 _ ih => exact .diff h1 h2 h3 (ih k)
end Go.Proofs.YtjgclemfehfgiaaDoor.Base
namespace Go.Proofs.YtjgclemfehfgiaaDoor.Base
open Go Go.RowKit
set_option linter.unusedVariables false
set_option linter.unusedSimpArgs false

/-- a list of pairs of elements in memory, apart from F, E and the log -/
def PrL (w : World) (F E : Nat) (lv : Value) (A : Option Addr) (c : Nat) (ps : List (Nat × Nat)) : Prop :=
  ps.length ≤ c ∧ c ≤ maxLen ∧ (0 < ps.length → ∃ b o, A = some ⟨b, o, none⟩ ∧ b < w.heap.size ∧ b ≠ F ∧ b ≠ E ∧ lv.ownBlock ≠ some b ∧
    ∀ i x y, ps[i]? = some (x, y) → ∃ q, w.cell? ⟨b, o + i, none⟩ = some (.slice (some ⟨q, 0, none⟩) 2 2) ∧ q < w.heap.size ∧ q ≠ F ∧ q ≠ E ∧ lv.ownBlock ≠ some q ∧
      w.cell? ⟨q, 0, none⟩ = some (.int .i64 ((x : Nat) : Int)) ∧ w.cell? ⟨q, 1, none⟩ = some (.int .i64 ((y : Nat) : Int)))
/-- what is kept while groups are joined: all blocks but F, E and the log's -/
structure Kf (F E : Nat) (lv lv' : Value) (w w' : World) : Prop where
  os : w'.os = w.os
  tape : w'.tape = w.tape
  output : w'.output = w.output
  size : w.heap.size ≤ w'.heap.size
  block : ∀ k, k < w.heap.size → k ≠ F → k ≠ E → lv.ownBlock ≠ some k → w'.heap[k]? = w.heap[k]?
  own : ∀ q, lv'.ownBlock = some q → lv.ownBlock = some q ∨ w.heap.size ≤ q
section
variable {F E : Nat} {l0 l1 l2 : Value} {w w1 w2 : World}
theorem Kf.refl (F E : Nat) (lv : Value) (w : World) : Kf F E lv lv w w := ⟨rfl, rfl, rfl, Nat.le_refl _, fun _ _ _ _ _ => rfl, fun q h => .inl h⟩
theorem Kf.trans (h : Kf F E l0 l1 w w1) (k : Kf F E l1 l2 w1 w2) : Kf F E l0 l2 w w2 :=
  ⟨k.os.trans h.os, k.tape.trans h.tape, k.output.trans h.output, Nat.le_trans h.size k.size, fun b h1 h2 h3 h4 => (k.block b (Nat.lt_of_lt_of_le h1 h.size) h2 h3 (fun e => by
    rcases h.own b e with h5 | h5
    · exact h4 h5
    · omega)).trans (h.block b h1 h2 h3 h4), fun q hq => by
    rcases k.own q hq with h5 | h5
    · exact h.own q h5
    · exact .inr (Nat.le_trans h.size h5)⟩
theorem Kf.bel (h : Kf F E l0 l1 w w1) (b : Below w1.heap.size w1 w2) : Kf F E l0 l1 w w2 :=
  ⟨b.os.trans h.os, b.tape.trans h.tape, b.output.trans h.output, Nat.le_trans h.size b.size, fun k h1 h2 h3 h4 => (b.block k (Nat.lt_of_lt_of_le h1 h.size)).trans (h.block k h1 h2 h3 h4), h.own⟩
theorem Kf.set (h : Kf F E l0 l1 w w1) {x : Nat} (hx : x = E ∨ x = F) (i : Nat) (v : Value) : Kf F E l0 l1 w (w1.setCell ⟨x, i, none⟩ v) :=
  ⟨h.os, h.tape, h.output, by simpa [World.setCell] using h.size, fun k h1 h2 h3 h4 => (Below.heap_setCell w1 ⟨x, i, none⟩ v k (by rcases hx with rfl | rfl <;> (intro e; simp at e; omega))).trans (h.block k h1 h2 h3 h4), h.own⟩
theorem Kf.grow (h : Kf F E l0 l1 w w1) (g : w1.grownBy w2 l1.ownBlock) (ho : ∀ q, l2.ownBlock = some q → l1.ownBlock = some q ∨ w1.heap.size ≤ q) : Kf F E l0 l2 w w2 :=
  ⟨g.os.trans h.os, g.tape.trans h.tape, g.output.trans h.output, Nat.le_trans h.size g.size, fun k h1 h2 h3 h4 => (g.block k (Nat.lt_of_lt_of_le h1 h.size) (fun e => by
    rcases h.own k e.symm with h5 | h5
    · exact h4 h5
    · omega)).trans (h.block k h1 h2 h3 h4), fun q hq => by
    rcases ho q hq with h5 | h5
    · exact h.own q h5
    · exact .inr (Nat.le_trans h.size h5)⟩
end
theorem owns_block {w w' : World} {B n s : Nat} {lv : Value} {t : TypeId} {xs : List Value} (ho : w.ownsRow B t s lv n xs) (hb : ∀ q, lv.ownBlock = some q → w'.heap[q]? = w.heap[q]?) : w'.ownsRow B t s lv n xs := by
  refine ⟨ho.1, ?_⟩
  rcases ho.2 with hn | ⟨g, cap, cur, rfl, h1, h2, rest⟩
  · exact .inl hn
  · exact .inr ⟨g, cap, cur, rfl, h1, (hb g rfl).trans h2, rest⟩
theorem PrL.kept {w w' : World} {F E : Nat} {lv lv' : Value} {A : Option Addr} {c : Nat} {ps : List (Nat × Nat)} (h : PrL w F E lv A c ps) (k : Kf F E lv lv' w w') : PrL w' F E lv' A c ps := by
  refine ⟨h.1, h.2.1, fun hn => ?_⟩
  obtain ⟨b, o, h1, h2, h3, h4, h5, h6⟩ := h.2.2 hn
  have nb : ∀ q, q < w.heap.size → lv.ownBlock ≠ some q → lv'.ownBlock ≠ some q := fun q h7 h8 e => by
    rcases k.own q e with h9 | h9
    · exact h8 h9
    · omega
  refine ⟨b, o, h1, Nat.lt_of_lt_of_le h2 k.size, h3, h4, nb b h2 h5, fun i x y hi => ?_⟩
  obtain ⟨q, q1, q2, q3, q4, q5, q6, q7⟩ := h6 i x y hi
  have eb := k.block b h2 h3 h4 h5
  have eq := k.block q q2 q3 q4 q5
  exact ⟨q, (World.cell?_of_block (a := ⟨b, o + i, none⟩) eb).trans q1, Nat.lt_of_lt_of_le q2 k.size, q3, q4, nb q q2 q5, (World.cell?_of_block (a := ⟨q, 0, none⟩) eq).trans q6, (World.cell?_of_block (a := ⟨q, 1, none⟩) eq).trans q7⟩
/-- a forest at rest: no path is shortened -/
structure Fo (W : World) (b0 F E n : Nat) (lv : Value) (p : Nat → Nat) (m : Nat) (g : Nat → Int) : Prop where
  box : At W F #[.slice (some ⟨E, 0, none⟩) n n, lv, .slice none 0 0] 155
  elm : Elm W E n p
  log : W.ownsRow b0 2 1 lv m (cellsOfF m g)
  far : ∀ q, lv.ownBlock = some q → q ≠ F ∧ q ≠ E
  ne : F ≠ E
  ju : ∃ rk, Ju n p p rk [] m
  cnt : nRt n p + m = n
  n2 : n ≤ 256
/-- the forest while pairs are joined -/
structure Js (w : World) (b0 F E n : Nat) (lv0 : Value) (p0 : Nat → Nat) (m0 : Nat) (g0 : Nat → Int) (ps : List (Nat × Nat)) (k : Nat) (pj ph rk : Nat → Nat) (L : List (Nat × Nat)) (m : Nat) (g : Nat → Int) (lv cv : Value) (W : World) : Prop where
  fst : Fst W w.heap.size F E n lv cv ph L
  ju : Ju n pj ph rk L m
  lg : Lg n p0 pj m0 m g0 g
  jn : Jns p0 (ps.take k) pj
  log : W.ownsRow b0 2 1 lv m (cellsOfF m g)
  far : ∀ q, lv.ownBlock = some q → q ≠ F ∧ q ≠ E ∧ cv.ownBlock ≠ some q
  kf : Kf F E lv0 lv w W
  len : L.length ≤ 512 * k
theorem Js.mle {w : World} {b0 F E n : Nat} {lv0 : Value} {p0 : Nat → Nat} {m0 : Nat} {g0 : Nat → Int} {ps : List (Nat × Nat)} {k : Nat} {pj ph rk : Nat → Nat} {L : List (Nat × Nat)} {m : Nat} {g : Nat → Int} {lv cv : Value} {W : World} (h : Js w b0 F E n lv0 p0 m0 g0 ps k pj ph rk L m g lv cv W) (hc : nRt n p0 + m0 = n) : m ≤ n := by
  have := h.lg.cnt; omega
theorem kf_stood {F E n : Nat} {l0 l1 cv cv' : Value} {w W W' : World} {base : Nat} (h : Kf F E l0 l1 w W) (hf : Frm base F E W W') (hk : Kpt F E cv cv' W W') (hc : ∀ q, cv.ownBlock = some q → w.heap.size ≤ q) : Kf F E l0 l1 w W' :=
  ⟨hf.os.trans h.os, hf.tape.trans h.tape, hf.output.trans h.output, Nat.le_trans h.size hf.size, fun k h1 h2 h3 h4 => (hk.1 k (Nat.lt_of_lt_of_le h1 h.size) h2 h3 (fun e => by have := hc k e; omega)).trans (h.block k h1 h2 h3 h4), h.own⟩
theorem kf_frm {F E : Nat} {l0 l1 : Value} {w W W' : World} (h : Kf F E l0 l1 w W) (f : Frm W.heap.size F E W W') : Kf F E l0 l1 w W' :=
  ⟨f.os.trans h.os, f.tape.trans h.tape, f.output.trans h.output, Nat.le_trans h.size f.size, fun k h1 h2 h3 h4 => (f.block k (Nat.lt_of_lt_of_le h1 h.size) h2 h3).trans (h.block k h1 h2 h3 h4), h.own⟩
/-- what join of many pairs leaves -/
def Jnd (w : World) (b0 F E n : Nat) (lv : Value) (p : Nat → Nat) (m : Nat) (g : Nat → Int) (ps : List (Nat × Nat)) (e : Ending) (w' : World) : Prop :=
  (∃ v, e = .returned v) ∧ ∃ lv' p' m' g', Jns p ps p' ∧ Lg n p p' m m' g g' ∧ Fo w' b0 F E n lv' p' m' g' ∧ Kf F E lv lv' w w'
theorem take_snoc {ps : List (Nat × Nat)} {k : Nat} {c : Nat × Nat} (h : ps[k]? = some c) : ps.take (k + 1) = ps.take k ++ [c] := by
  rw [List.take_add_one, h]; rfl
set_option maxHeartbeats 8000000 in
set_option maxRecDepth 100000 in
theorem impl_joinN (w : World) (b0 F E n : Nat) (lv0 : Value) (p0 : Nat → Nat) (m0 : Nat) (g0 : Nat → Int) (A : Option Addr) (c : Nat) (ps : List (Nat × Nat)) (hfo : Fo w b0 F E n lv0 p0 m0 g0) (hps : PrL w F E lv0 A c ps) (hlt : ∀ z ∈ ps, z.1 < n ∧ z.2 < n) (hN : ps.length ≤ 1000) (hb0 : b0 ≤ w.heap.size) :
    Calls Tryd.prog 83 #[.pointer (some ⟨F, 0, none⟩), .slice A ps.length c] w (Jnd w b0 F E n lv0 p0 m0 g0 ps) := by
  obtain ⟨rk0, hju⟩ := hfo.ju
  have hn := hfo.n2
  have hFE := hfo.ne
  have HCN := Lib.hid hfo.cnt
  have HPS := Lib.hid hps
  have HLT := Lib.hid hlt
  have hF := hfo.box.lt
  have hE := hfo.elm.lt
  have hPc := hps.1
  have hPm := hps.2.1
  unfold maxLen at hPm
  have HJ0 : Hid (Js w b0 F E n lv0 p0 m0 g0 ps 0 p0 p0 rk0 [] m0 g0 lv0 (.slice none 0 0) w) := Lib.hid ⟨⟨hfo.box, hfo.elm, ⟨rfl, .inl ⟨rfl, rfl⟩⟩, hF, hE, hFE, Nat.le_refl _⟩, hju, Lg.refl n p0 m0 g0, .nil, hfo.log, fun q hq => ⟨(hfo.far q hq).1, (hfo.far q hq).2, fun e => by cases e⟩, Kf.refl _ _ _ _, Nat.zero_le _⟩
  clear hfo hps hlt hju
  go_enter_defers Tryd.func83, Tryd.ntmps83
  go_wp2
  go_loopw [11] (fun iv wr => ∃ (k : Nat) (pj ph rk : Nat → Nat) (L : List (Nat × Nat)) (m : Nat) (g : Nat → Int) (lv cv : Value), k ≤ ps.length ∧ iv = .int .i64 (k : Int) ∧ Hid (Js w b0 F E n lv0 p0 m0 g0 ps k pj ph rk L m g lv cv wr)) (fun iv _ => ps.length - (intOf iv).toNat)
  case atStart => exact ⟨0, p0, p0, rk0, [], m0, g0, lv0, .slice none 0 0, Nat.zero_le _, rfl, HJ0⟩
  case round =>
    clear HJ0
    obtain ⟨k, pj, ph, rk, L, m, g, lv, cv, hk, rfl, HJ⟩ := hrel
    have hmn := HJ.out.mle HCN.out
    by_cases hlt : k < ps.length
    · obtain ⟨⟨a, b⟩, hab⟩ : ∃ z, ps[k]? = some z := ⟨ps[k], List.getElem?_eq_getElem hlt⟩
      have HAB := Lib.hid hab
      obtain ⟨ha, hb⟩ := HLT.out (a, b) (List.mem_of_getElem? hab)
      obtain ⟨B, o, rfl, hB1, hB2, hB3, hB4, hcell⟩ := HPS.out.2.2 (by omega)
      obtain ⟨Q, q1, qz, q3, q4, q5, q6, q7⟩ := hcell k a b hab
      have eB := HJ.out.kf.block B hB1 hB2 hB3 hB4
      have eQ := HJ.out.kf.block Q qz q3 q4 q5
      replace q1 := (World.cell?_of_block (a := ⟨B, o + k, none⟩) eB).trans q1
      replace q6 := (World.cell?_of_block (a := ⟨Q, 0, none⟩) eQ).trans q6
      replace q7 := (World.cell?_of_block (a := ⟨Q, 1, none⟩) eQ).trans q7
      have q2 : Q < wr.heap.size := Nat.lt_of_lt_of_le qz HJ.out.kf.size
      replace hB1 : B < wr.heap.size := Nat.lt_of_lt_of_le hB1 HJ.out.kf.size
      clear hcell hab hB2 hB3 hB4 eB eQ
      have HF := Lib.hid HJ.out.ju.fh
      have HRK := Lib.hid (fun x (hx : x < n) => (show rk x ≤ 256 from Nat.le_trans (HJ.out.ju.le x hx) (by omega)))
      obtain ⟨ra, hra⟩ := HJ.out.ju.fh.has ha
      obtain ⟨rb, hrb⟩ := HJ.out.ju.fh.has hb
      have HRA := Lib.hid hra
      have HRB := Lib.hid hrb
      have hral := hra.lt HJ.out.ju.fh ha
      have hrbl := hrb.lt HJ.out.ju.fh hb
      have hcvQ : cv.ownBlock ≠ some Q := fun e => by have := (HJ.out.fst.chg.lt Q e).1; omega
      have HCV := Lib.hid hcvQ
      have hlenL := HJ.out.len
      have HSd := Lib.hid HJ.out.fst.drew
      clear hra hrb hcvQ
      go_wp2_with fail
      clear q1 hB1
      have hQz := q2
      have hq6 := q6
      have hq7 := q7
      go_region_held3 (fun w' => w'.cell? ⟨Q, 0, none⟩ = some (.int .i64 (a : Int)) ∧ w'.cell? ⟨Q, 1, none⟩ = some (.int .i64 (b : Int)))
        (first | exact ⟨q6, q7⟩ | exact ⟨r0, r1⟩ | exact ⟨t0, t1⟩ | go_keep | assumption)
        (first
          | (go_at_call 133; (with_reducible refine (impl_standing2 _ w.heap.size F E n lv cv rk ph L a ra ?_ HF.out ha HRA.out hn (by omega) HRK.out).mono ?_); exact HSd.out; rintro e wa ⟨cva, pa, La, rfl, fa, qa, ua, la, da, sa, wwa, kka⟩; have ea := kka.1 Q q2 q3 q4 HCV.out; have r0 : wa.cell? ⟨Q, 0, none⟩ = some (.int .i64 (a : Int)) := (World.cell?_of_block (a := ⟨Q, 0, none⟩) ea).trans q6; have r1 : wa.cell? ⟨Q, 1, none⟩ = some (.int .i64 (b : Int)) := (World.cell?_of_block (a := ⟨Q, 1, none⟩) ea).trans q7; have FA := Lib.hid fa; have QA := Lib.hid qa; have UA := Lib.hid ua; have DA := Lib.hid da; have SA := Lib.hid sa; have WA := Lib.hid wwa; have KA := Lib.hid kka; clear fa qa ua da sa wwa kka ea)
          | (go_at_call 133; (with_reducible refine (impl_standing2 _ w.heap.size F E n lv cva rk pa La b rb ?_ FA.out hb ((QA.out b rb hb).2 HRB.out) hn (by omega) HRK.out).mono ?_); (first | exact SA.out | exact SA.out.drew); rintro e wb ⟨cvb, pb, Lb, rfl, fb, qb, ub, lb, db, sb, wwb, kkb⟩; have eb := kkb.1 Q (Nat.lt_of_lt_of_le q2 WA.out.size) q3 q4 (fun e => by rcases KA.out.2 Q e with h | h; exact HCV.out h; exact absurd h (Nat.not_le.2 q2)); have t0 : wb.cell? ⟨Q, 0, none⟩ = some (.int .i64 (a : Int)) := (World.cell?_of_block (a := ⟨Q, 0, none⟩) eb).trans r0; have t1 : wb.cell? ⟨Q, 1, none⟩ = some (.int .i64 (b : Int)) := (World.cell?_of_block (a := ⟨Q, 1, none⟩) eb).trans r1; have FB := Lib.hid fb; have QB := Lib.hid qb; have UB := Lib.hid ub; have DB := Lib.hid db; have SB := Lib.hid sb; have WB := Lib.hid wwb; have KB := Lib.hid kkb; clear fb qb ub db sb wwb kkb eb))
      rename_i hSx
      clear hSx r0 r1 t0 t1 q6 q7 hq6 hq7 HSd SA
      have HJU := Lib.hid ((HJ.out.ju.stand FA.out QA.out UA.out DA.out).stand FB.out QB.out UB.out DB.out)
      have HCW : Hid (∀ q, cv.ownBlock = some q → w.heap.size ≤ q) := Lib.hid (fun q hq => (HJ.out.fst.chg.lt q hq).1)
      have HCA : Hid (∀ q, cva.ownBlock = some q → w.heap.size ≤ q) := Lib.hid (fun q hq => by
        rcases KA.out.2 q hq with h | h
        · exact HCW.out q h
        · exact Nat.le_trans HJ.out.kf.size h)
      have HKF := Lib.hid (kf_stood (n := n) (kf_stood (n := n) (HJ.out.kf.bel ((Below.refl _ wr).drew)) WA.out KA.out HCW.out) WB.out KB.out HCA.out)
      have HFA : Hid (∀ q, lv.ownBlock = some q → q ≠ F ∧ q ≠ E ∧ cvb.ownBlock ≠ some q) := Lib.hid (fun q hq => by
        obtain ⟨f1, f2, f3⟩ := HJ.out.far q hq
        have fz := (HJ.out.log.lt q hq).2
        have fa : cva.ownBlock ≠ some q := fun e => by
          rcases KA.out.2 q e with h | h
          · exact f3 h
          · exact absurd h (Nat.not_le.2 fz)
        refine ⟨f1, f2, fun e => ?_⟩
        rcases KB.out.2 q e with h | h
        · exact fa h
        · exact absurd h (Nat.not_le.2 (Nat.lt_of_lt_of_le fz WA.out.size)))
      have HLB := Lib.hid (owns_block (w' := wb) HJ.out.log (fun q hq => by
        obtain ⟨f1, f2, f3⟩ := HJ.out.far q hq
        have fz := (HJ.out.log.lt q hq).2
        have fa : cva.ownBlock ≠ some q := fun e => by
          rcases KA.out.2 q e with h | h
          · exact f3 h
          · exact absurd h (Nat.not_le.2 fz)
        exact (KB.out.1 q (Nat.lt_of_lt_of_le fz WA.out.size) f1 f2 fa).trans (KA.out.1 q fz f1 f2 f3)))
      have HLG := Lib.hid HJ.out.lg
      have HJN := Lib.hid HJ.out.jn
      have HRP := Lib.hid (show Rt pj a ra ∧ Rt pj b rb from ⟨(HJ.out.ju.rts a ra ha).1 HRA.out, (HJ.out.ju.rts b rb hb).1 HRB.out⟩)
      have hlb : Lb.length ≤ 512 * (k + 1) := by omega
      obtain ⟨x1, x2, x3, x4⟩ := SB.out.elm.at_ hral
      obtain ⟨y1, y2, y3, y4⟩ := SB.out.elm.at_ hrbl
      have ez := SB.out.elm.lt
      have bz := SB.out.box.lt
      clear DA DB UA UB QA QB FA FB KA KB WA WB HCW HCA HJ HCV HRA HRB HF HRK hlenL la lb q2 q3 q4 q5 hQz qz
      by_cases hab : ra = rb
      · subst hab
        go_wp2_with fail
        go_quiet (fail)
        go_wp2
        go_roundw
        case rel =>
          have bd := below_drewN (Below.refl wb.heap.size wb) nq
          exact ⟨k + 1, pj, pb, rk, Lb, m, g, lv, cvb, hlt, by go_num, Lib.hid ⟨SB.out.bel bd, HJU.out, HLG.out, by rw [take_snoc HAB.out]; exact HJN.out.snoc (.same HRP.out.1 HRP.out.2 .nil), owns_belowS HLB.out bd, HFA.out, HKF.out.bel bd, hlb⟩⟩
        case measure => simp [intOf]; omega
      · have n1 : ((ra : Int) == (rb : Int)) = false := beq_eq_false_iff_ne.2 (by omega)
        by_cases hlr : ra < rb
        · have n2 : decide ((rb : Int) < (ra : Int)) = false := by simp; omega
          go_wp2_with fail
          go_quiet (fail)
          have bd := below_drewN (Below.refl wb.heap.size wb) nq
          have SB1 := Lib.hid (SB.out.bel bd)
          have HL1 := Lib.hid (owns_belowS HLB.out bd)
          have HK1 := Lib.hid (HKF.out.bel bd)
          clear x1 x2 x3 x4 y1 y2 y3 y4 ez bz SB HLB HKF bd
          generalize wb.drewN nq = w5 at *
          obtain ⟨x1, x2, x3, x4⟩ := SB1.out.elm.at_ hral
          obtain ⟨y1, y2, y3, y4⟩ := SB1.out.elm.at_ hrbl
          have ez := SB1.out.elm.lt
          go_wp2_with fail
          go_quiet (fail)
          have bd := below_drewN (Below.refl w5.heap.size w5) nq
          have SB2 := Lib.hid (SB1.out.bel bd)
          have HL2 := Lib.hid (owns_belowS HL1.out bd)
          have HK2 := Lib.hid (HK1.out.bel bd)
          clear x1 x2 x3 x4 y1 y2 y3 y4 ez SB1 HL1 HK1 bd
          generalize w5.drewN nq = w6 at *
          obtain ⟨x1, x2, x3, x4⟩ := SB2.out.elm.at_ hral
          obtain ⟨y1, y2, y3, y4⟩ := SB2.out.elm.at_ hrbl
          have ez := SB2.out.elm.lt
          go_wp2_with fail
          have hYl : rb < n := hrbl
          have SB7 := Lib.hid (show Fst (w6.setCell ⟨E, rb * 2 + 1, none⟩ (.pointer (some ⟨E, ra * 2, none⟩))) w.heap.size F E n lv cvb (hvP pb rb ra) Lb from ⟨SB2.out.box.setOther (fun e => hFE e.symm) _, SB2.out.elm.put hYl ra, ownsRow_setCell_below SB2.out.chg (by exact SB2.out.far2) _, SB2.out.far1, SB2.out.far2, hFE, by simpa [World.setCell] using SB2.out.low⟩)
          have HL7 := Lib.hid (HL2.out.kept (grown_set w6 E (rb * 2 + 1) (.pointer (some ⟨E, ra * 2, none⟩))) (own_ne (fun q hq => (HFA.out q hq).2.1)))
          have HK7 := Lib.hid (HK2.out.set (.inl rfl) (rb * 2 + 1) (.pointer (some ⟨E, ra * 2, none⟩)))
          clear x1 x2 x3 x4 y1 y2 y3 y4 ez SB2 HL2 HK2 n1 n2
          generalize w6.setCell ⟨E, rb * 2 + 1, none⟩ (.pointer (some ⟨E, ra * 2, none⟩)) = w7 at *
          obtain ⟨y1, -, y3, -⟩ := SB7.out.elm.at_ hYl
          have ez := SB7.out.elm.lt
          have b1 := SB7.out.box.cellv (i := 1) rfl
          have g1 := SB7.out.box.frozen 1
          have bz := SB7.out.box.lt
          have hbz : b0 ≤ w7.heap.size := Nat.le_trans hb0 HK7.out.size
          obtain ⟨i0, hi, hz0, hz1, hz2⟩ := info_parts infoI64
          refine region_out ?_
          go_region_law (refine step_append_lies (w7.drew.alloc (.cells #[.int .i64 (rb : Int)] 2)) (by rfl) (.tmp 53) (.tmp 58) 22 (by rfl) b0 2 i0 (.int .i64 0) 1 8 Tryd.underlying22 hi hz0 hz1 hz2 rfl (by decide) lv m (cellsOfF m g) (by rfl) (HL7.out.drew.alloc _) ⟨w7.heap.size, 0, none⟩ 1 1 [.int .i64 (rb : Int)] (by rfl) (by rfl) (World.news_of_block (cs := #[.int .i64 (rb : Int)]) (t := 2) (fr := (0, 0)) (heap_alloc_new w7.drew _)) (fun u hu => by simp at hu; subst hu; rfl) (by omega) (by unfold maxLen; omega) (by omega) (by simp; omega) (w7.heap.size + 1) (by simp) ?_; intro gg cap wz hown1 hgrow hat hlt1; have eF : wz.heap[F]? = w7.heap[F]? := (hgrow.block F (by simp; omega) (fun e => (HFA.out F e.symm).1 rfl)).trans (Below.heap_alloc _ _ _ (by exact bz)); have eE : wz.heap[E]? = w7.heap[E]? := (hgrow.block E (by simp; omega) (fun e => (HFA.out E e.symm).2.1 rfl)).trans (Below.heap_alloc _ _ _ (by exact ez)); have q2 := (World.cell?_of_block (a := ⟨F, 1, none⟩) eF).trans b1; have f2 := (World.frozen?_of_block (a := ⟨F, 1, none⟩) eF).trans g1; have zF : F < wz.heap.size := Nat.lt_of_lt_of_le (by simp; omega) hgrow.size; have HOW := Lib.hid hown1; have HGR := Lib.hid hgrow; have HAT := Lib.hid hat; have HEF := Lib.hid eF; have HEE := Lib.hid eE; clear hown1 hgrow hat eF eE)
          all_goals
            go_wp2
            clear q2 f2 b1 g1 y1 y3
            go_roundw
            case rel =>
              have hsz : (w7.drew.alloc (.cells #[.int .i64 (rb : Int)] 2)).heap.size = w7.heap.size + 1 := by simp
              have hgg : gg ≠ F ∧ gg ≠ E ∧ cvb.ownBlock ≠ some gg := by
                rcases HAT.out with h | h
                · exact HFA.out gg h
                · exact ⟨by omega, by omega, fun e => by have := (SB7.out.chg.lt gg e).2; omega⟩
              have hcl : cvb.ownBlock = none ∨ cvb.ownBlock ≠ lv.ownBlock := by
                cases e : cvb.ownBlock with
                | none => exact .inl rfl
                | some q => exact .inr (fun e2 => (HFA.out q e2.symm).2.2 e)
              refine ⟨k + 1, hvP pj rb ra, hvP pb rb ra, rkU rk rb, Lb, m + 1, putF g m ((rb : Nat) : Int), .slice (some ⟨gg, 0, none⟩) (m + 1) cap, cvb, hlt, by go_num, Lib.hid ⟨⟨?_, ?_, ?_, SB7.out.far1, SB7.out.far2, hFE, ?_⟩, ?_, ?_, ?_, ?_, ?_, ?_, hlb⟩⟩
              · exact (SB7.out.box.of_block HEF.out).set 1 (.slice (some ⟨gg, 0, none⟩) (m + 1) cap)
              · exact (SB7.out.elm.of_block HEE.out).of_block (Below.heap_setCell wz ⟨F, 1, none⟩ _ E (fun e => hFE e.symm))
              · exact ownsRow_setCell_below (((SB7.out.chg.drew.alloc _).kept HGR.out hcl)) (by exact SB7.out.far1) _
              · have h1 := HGR.out.size
                have h2 := SB7.out.low
                have h4 : (wz.setCell ⟨F, 1, none⟩ (.slice (some ⟨gg, 0, none⟩) (m + 1) cap)).heap.size = wz.heap.size := by simp [World.setCell]
                rw [h4]
                omega
              · exact HJU.out.join HRP.out.2.root HRP.out.1.root (fun e => hab e.symm) hrbl hral
              · exact HLG.out.snoc HRP.out.2.root (fun e => hab e.symm) hrbl
              · rw [take_snoc HAB.out]
                have h9 := Jns.diff (l := []) HRP.out.1 HRP.out.2 hab .nil
                rw [show max ra rb = rb by omega, show min ra rb = ra by omega] at h9
                exact HJN.out.snoc h9
              · have h1 := HOW.out
                rw [cells_snoc] at h1
                exact h1.kept (grown_set wz F 1 _) (own_ne (fun q hq => by have e5 : gg = q := (by simpa [Value.ownBlock] using hq); exact e5 ▸ hgg.1))
              · intro q hq
                have e5 : gg = q := by simpa [Value.ownBlock] using hq
                subst e5
                exact hgg
              · refine ((HK7.out.bel (((Below.refl w7.heap.size w7).drew).alloc (Nat.le_refl _) (.cells #[.int .i64 (rb : Int)] 2))).grow HGR.out (fun q hq => ?_)).set (.inr rfl) 1 _
                have e5 : gg = q := by simpa [Value.ownBlock] using hq
                subst e5
                exact HAT.out.imp id (fun h => by omega)
            case measure => simp [intOf]; omega
        · have n2 : decide ((rb : Int) < (ra : Int)) = true := by simp; omega
          go_wp2_with fail
          go_quiet (fail)
          have bd := below_drewN (Below.refl wb.heap.size wb) nq
          have SB1 := Lib.hid (SB.out.bel bd)
          have HL1 := Lib.hid (owns_belowS HLB.out bd)
          have HK1 := Lib.hid (HKF.out.bel bd)
          clear x1 x2 x3 x4 y1 y2 y3 y4 ez bz SB HLB HKF bd
          generalize wb.drewN nq = w5 at *
          obtain ⟨x1, x2, x3, x4⟩ := SB1.out.elm.at_ hral
          obtain ⟨y1, y2, y3, y4⟩ := SB1.out.elm.at_ hrbl
          have ez := SB1.out.elm.lt
          go_wp2_with fail
          go_quiet (fail)
          have bd := below_drewN (Below.refl w5.heap.size w5) nq
          have SB2 := Lib.hid (SB1.out.bel bd)
          have HL2 := Lib.hid (owns_belowS HL1.out bd)
          have HK2 := Lib.hid (HK1.out.bel bd)
          clear x1 x2 x3 x4 y1 y2 y3 y4 ez SB1 HL1 HK1 bd
          generalize w5.drewN nq = w6 at *
          obtain ⟨x1, x2, x3, x4⟩ := SB2.out.elm.at_ hral
          obtain ⟨y1, y2, y3, y4⟩ := SB2.out.elm.at_ hrbl
          have ez := SB2.out.elm.lt
          go_wp2_with fail
          have hYl : ra < n := hral
          have SB7 := Lib.hid (show Fst (w6.setCell ⟨E, ra * 2 + 1, none⟩ (.pointer (some ⟨E, rb * 2, none⟩))) w.heap.size F E n lv cvb (hvP pb ra rb) Lb from ⟨SB2.out.box.setOther (fun e => hFE e.symm) _, SB2.out.elm.put hYl rb, ownsRow_setCell_below SB2.out.chg (by exact SB2.out.far2) _, SB2.out.far1, SB2.out.far2, hFE, by simpa [World.setCell] using SB2.out.low⟩)
          have HL7 := Lib.hid (HL2.out.kept (grown_set w6 E (ra * 2 + 1) (.pointer (some ⟨E, rb * 2, none⟩))) (own_ne (fun q hq => (HFA.out q hq).2.1)))
          have HK7 := Lib.hid (HK2.out.set (.inl rfl) (ra * 2 + 1) (.pointer (some ⟨E, rb * 2, none⟩)))
          clear x1 x2 x3 x4 y1 y2 y3 y4 ez SB2 HL2 HK2 n1 n2
          generalize w6.setCell ⟨E, ra * 2 + 1, none⟩ (.pointer (some ⟨E, rb * 2, none⟩)) = w7 at *
          obtain ⟨y1, -, y3, -⟩ := SB7.out.elm.at_ hYl
          have ez := SB7.out.elm.lt
          have b1 := SB7.out.box.cellv (i := 1) rfl
          have g1 := SB7.out.box.frozen 1
          have bz := SB7.out.box.lt
          have hbz : b0 ≤ w7.heap.size := Nat.le_trans hb0 HK7.out.size
          obtain ⟨i0, hi, hz0, hz1, hz2⟩ := info_parts infoI64
          refine region_out ?_
          go_region_law (refine step_append_lies (w7.drew.alloc (.cells #[.int .i64 (ra : Int)] 2)) (by rfl) (.tmp 53) (.tmp 58) 22 (by rfl) b0 2 i0 (.int .i64 0) 1 8 Tryd.underlying22 hi hz0 hz1 hz2 rfl (by decide) lv m (cellsOfF m g) (by rfl) (HL7.out.drew.alloc _) ⟨w7.heap.size, 0, none⟩ 1 1 [.int .i64 (ra : Int)] (by rfl) (by rfl) (World.news_of_block (cs := #[.int .i64 (ra : Int)]) (t := 2) (fr := (0, 0)) (heap_alloc_new w7.drew _)) (fun u hu => by simp at hu; subst hu; rfl) (by omega) (by unfold maxLen; omega) (by omega) (by simp; omega) (w7.heap.size + 1) (by simp) ?_; intro gg cap wz hown1 hgrow hat hlt1; have eF : wz.heap[F]? = w7.heap[F]? := (hgrow.block F (by simp; omega) (fun e => (HFA.out F e.symm).1 rfl)).trans (Below.heap_alloc _ _ _ (by exact bz)); have eE : wz.heap[E]? = w7.heap[E]? := (hgrow.block E (by simp; omega) (fun e => (HFA.out E e.symm).2.1 rfl)).trans (Below.heap_alloc _ _ _ (by exact ez)); have q2 := (World.cell?_of_block (a := ⟨F, 1, none⟩) eF).trans b1; have f2 := (World.frozen?_of_block (a := ⟨F, 1, none⟩) eF).trans g1; have zF : F < wz.heap.size := Nat.lt_of_lt_of_le (by simp; omega) hgrow.size; have HOW := Lib.hid hown1; have HGR := Lib.hid hgrow; have HAT := Lib.hid hat; have HEF := Lib.hid eF; have HEE := Lib.hid eE; clear hown1 hgrow hat eF eE)
          all_goals
            go_wp2
            clear q2 f2 b1 g1 y1 y3
            go_roundw
            case rel =>
              have hsz : (w7.drew.alloc (.cells #[.int .i64 (ra : Int)] 2)).heap.size = w7.heap.size + 1 := by simp
              have hgg : gg ≠ F ∧ gg ≠ E ∧ cvb.ownBlock ≠ some gg := by
                rcases HAT.out with h | h
                · exact HFA.out gg h
                · exact ⟨by omega, by omega, fun e => by have := (SB7.out.chg.lt gg e).2; omega⟩
              have hcl : cvb.ownBlock = none ∨ cvb.ownBlock ≠ lv.ownBlock := by
                cases e : cvb.ownBlock with
                | none => exact .inl rfl
                | some q => exact .inr (fun e2 => (HFA.out q e2.symm).2.2 e)
              refine ⟨k + 1, hvP pj ra rb, hvP pb ra rb, rkU rk ra, Lb, m + 1, putF g m ((ra : Nat) : Int), .slice (some ⟨gg, 0, none⟩) (m + 1) cap, cvb, hlt, by go_num, Lib.hid ⟨⟨?_, ?_, ?_, SB7.out.far1, SB7.out.far2, hFE, ?_⟩, ?_, ?_, ?_, ?_, ?_, ?_, hlb⟩⟩
              · exact (SB7.out.box.of_block HEF.out).set 1 (.slice (some ⟨gg, 0, none⟩) (m + 1) cap)
              · exact (SB7.out.elm.of_block HEE.out).of_block (Below.heap_setCell wz ⟨F, 1, none⟩ _ E (fun e => hFE e.symm))
              · exact ownsRow_setCell_below (((SB7.out.chg.drew.alloc _).kept HGR.out hcl)) (by exact SB7.out.far1) _
              · have h1 := HGR.out.size
                have h2 := SB7.out.low
                have h4 : (wz.setCell ⟨F, 1, none⟩ (.slice (some ⟨gg, 0, none⟩) (m + 1) cap)).heap.size = wz.heap.size := by simp [World.setCell]
                rw [h4]
                omega
              · exact HJU.out.join HRP.out.1.root HRP.out.2.root hab hral hrbl
              · exact HLG.out.snoc HRP.out.1.root hab hral
              · rw [take_snoc HAB.out]
                have h9 := Jns.diff (l := []) HRP.out.1 HRP.out.2 hab .nil
                rw [show max ra rb = ra by omega, show min ra rb = rb by omega] at h9
                exact HJN.out.snoc h9
              · have h1 := HOW.out
                rw [cells_snoc] at h1
                exact h1.kept (grown_set wz F 1 _) (own_ne (fun q hq => by have e5 : gg = q := (by simpa [Value.ownBlock] using hq); exact e5 ▸ hgg.1))
              · intro q hq
                have e5 : gg = q := by simpa [Value.ownBlock] using hq
                subst e5
                exact hgg
              · refine ((HK7.out.bel (((Below.refl w7.heap.size w7).drew).alloc (Nat.le_refl _) (.cells #[.int .i64 (ra : Int)] 2))).grow HGR.out (fun q hq => ?_)).set (.inr rfl) 1 _
                have e5 : gg = q := by simpa [Value.ownBlock] using hq
                subst e5
                exact HAT.out.imp id (fun h => by omega)
            case measure => simp [intOf]; omega
    · obtain rfl : k = ps.length := by omega
      go_wp2
      refine leaves_cons (f := 132) (args := #[.pointer (some ⟨F, 0, none⟩)]) (by simp) (by simp [go_sem]) ?_
      refine (impl_restore wr w.heap.size F E n lv cv ph L .returning HJ.out.fst hn (by have := HJ.out.len; omega) (fun c hc => (HJ.out.ju.nrt c hc).1)).mono ?_
      rintro e u' w' ⟨rfl, ⟨v, rfl⟩, h1, h2, h3⟩
      refine ⟨_, results_none rfl _ _ _, ⟨_, rfl⟩, lv, pj, m, g, by have h := HJ.out.jn; rwa [List.take_length] at h, HJ.out.lg, ⟨h2, h1.congr HJ.out.ju.und, owns_block HJ.out.log (fun q hq => h3.block q (HJ.out.log.lt q hq).2 (HJ.out.far q hq).1 (HJ.out.far q hq).2.1), fun q hq => ⟨(HJ.out.far q hq).1, (HJ.out.far q hq).2.1⟩, hFE, ⟨rk, HJ.out.ju.last⟩, by have := HJ.out.lg.cnt; have := HCN.out; omega, hn⟩, kf_frm HJ.out.kf h3⟩
end Go.Proofs.YtjgclemfehfgiaaDoor.Base
namespace Go.Proofs.YtjgclemfehfgiaaDoor.Base
open Go Go.RowKit
set_option linter.unusedVariables false
set_option linter.unusedSimpArgs false

/-- the directions by their numbers -/
def ddx (k : Nat) : Int := if k % 2 = 0 then -1 else 1
def ddy (k : Nat) : Int := if k < 2 then -1 else 1
/-- the two pairs of directions of a kind -/
def dpA (t : Nat) : Nat → Nat × Nat
  | 0 => if t = 1 then (0, 2) else if t = 2 then (0, 1) else (0, 3)
  | _ => if t = 1 then (1, 3) else if t = 2 then (2, 3) else (1, 2)
theorem dp_lt (t k : Nat) : (dpA t k).1 < 4 ∧ (dpA t k).2 < 4 := by
  unfold dpA
  split <;> split <;> (try split) <;> simp
theorem leaving_any (w : World) (x y : Int) (k : Nat) (hk : k < 4) (hT : Cel w 1 [.int .i64 (-1), .int .i64 (-1), .int .i64 1, .int .i64 (-1), .int .i64 (-1), .int .i64 1, .int .i64 1, .int .i64 1]) : Calls Tryd.prog 159 #[.agg #[.int .i64 x, .int .i64 y], .int .i64 (k : Int)] w (Gives (.agg #[.int .i64 x, .int .i64 y, .int .i64 (ddx k), .int .i64 (ddy k)]) w) := by
  have h : k = 0 ∨ k = 1 ∨ k = 2 ∨ k = 3 := by omega
  rcases h with rfl | rfl | rfl | rfl
  · exact leaving_0 w x y hT
  · exact leaving_1 w x y hT
  · exact leaving_2 w x y hT
  · exact leaving_3 w x y hT
theorem dd_sign (k : Nat) : signB (ddx k) = true ∧ signB (ddy k) = true := by
  unfold ddx ddy
  constructor <;> split <;> rfl
/-- the pairs of the first k pairs of directions -/
def prD (W H X Y : Int) (t k : Nat) : List (Nat × Nat) :=
  if goB W H X Y (ddx (dpA t k).1) (ddy (dpA t k).1) = true then [(min (sAt H X Y (ddx (dpA t k).1) (ddy (dpA t k).1)) (sAt H X Y (ddx (dpA t k).2) (ddy (dpA t k).2)), max (sAt H X Y (ddx (dpA t k).1) (ddy (dpA t k).1)) (sAt H X Y (ddx (dpA t k).2) (ddy (dpA t k).2)))] else []
def prK (W H X Y : Int) (t : Nat) : Nat → List (Nat × Nat)
  | 0 => []
  | k + 1 => prK W H X Y t k ++ prD W H X Y t k
theorem prK_two (W H X Y : Int) (t : Nat) (ht : t < 3) : prK W H X Y t 2 = prA W H (t : Int) X Y := by
  have h : t = 0 ∨ t = 1 ∨ t = 2 := by omega
  show ([] ++ prD W H X Y t 0) ++ prD W H X Y t 1 = _
  rw [List.nil_append]
  rcases h with rfl | rfl | rfl
  · have e : dirL ((0 : Nat) : Int) = [((-1, -1), (1, 1)), ((1, -1), (-1, 1))] := rfl
    show (if goB W H X Y (-1) (-1) = true then [(min (sAt H X Y (-1) (-1)) (sAt H X Y 1 1), max (sAt H X Y (-1) (-1)) (sAt H X Y 1 1))] else []) ++ (if goB W H X Y 1 (-1) = true then [(min (sAt H X Y 1 (-1)) (sAt H X Y (-1) 1), max (sAt H X Y 1 (-1)) (sAt H X Y (-1) 1))] else []) = _
    unfold prA
    rw [e]
    cases h1 : goB W H X Y (-1) (-1) <;> cases h2 : goB W H X Y 1 (-1) <;> simp [List.filter, h1, h2]
  · have e : dirL ((1 : Nat) : Int) = [((-1, -1), (-1, 1)), ((1, -1), (1, 1))] := rfl
    show (if goB W H X Y (-1) (-1) = true then [(min (sAt H X Y (-1) (-1)) (sAt H X Y (-1) 1), max (sAt H X Y (-1) (-1)) (sAt H X Y (-1) 1))] else []) ++ (if goB W H X Y 1 (-1) = true then [(min (sAt H X Y 1 (-1)) (sAt H X Y 1 1), max (sAt H X Y 1 (-1)) (sAt H X Y 1 1))] else []) = _
    unfold prA
    rw [e]
    cases h1 : goB W H X Y (-1) (-1) <;> cases h2 : goB W H X Y 1 (-1) <;> simp [List.filter, h1, h2]
  · have e : dirL ((2 : Nat) : Int) = [((-1, -1), (1, -1)), ((-1, 1), (1, 1))] := rfl
    show (if goB W H X Y (-1) (-1) = true then [(min (sAt H X Y (-1) (-1)) (sAt H X Y 1 (-1)), max (sAt H X Y (-1) (-1)) (sAt H X Y 1 (-1)))] else []) ++ (if goB W H X Y (-1) 1 = true then [(min (sAt H X Y (-1) 1) (sAt H X Y 1 1), max (sAt H X Y (-1) 1) (sAt H X Y 1 1))] else []) = _
    unfold prA
    rw [e]
    cases h1 : goB W H X Y (-1) (-1) <;> cases h2 : goB W H X Y (-1) 1 <;> simp [List.filter, h1, h2]

/-- a list of pairs that the call owns: its rows qs -/
structure PrO (W : World) (base : Nat) (u : Value) (ps : List (Nat × Nat)) (qs : List Nat) : Prop where
  len : qs.length = ps.length
  own : W.ownsRow base 22 1 u ps.length (qs.map fun q => .slice (some ⟨q, 0, none⟩) 2 2)
  row : ∀ (i q x y : Nat), qs[i]? = some q → ps[i]? = some (x, y) → At W q #[.int .i64 ((x : Nat) : Int), .int .i64 ((y : Nat) : Int)] 2 ∧ base ≤ q
  sep : ∀ q ∈ qs, u.ownBlock ≠ some q
theorem PrO.lt {W : World} {base : Nat} {u : Value} {ps : List (Nat × Nat)} {qs : List Nat} (h : PrO W base u ps qs) {q : Nat} (hq : q ∈ qs) : q < W.heap.size ∧ base ≤ q := by
  obtain ⟨i, hi, rfl⟩ := List.mem_iff_getElem.1 hq
  have hl := h.len
  obtain ⟨h1, h2⟩ := h.row i qs[i] (ps[i]'(by omega)).1 (ps[i]'(by omega)).2 (List.getElem?_eq_getElem hi) (by rw [List.getElem?_eq_getElem (by omega)])
  exact ⟨h1.lt, h2⟩
theorem PrO.bel {W W' : World} {base : Nat} {u : Value} {ps : List (Nat × Nat)} {qs : List Nat} (h : PrO W base u ps qs) (b : Below W.heap.size W W') : PrO W' base u ps qs :=
  ⟨h.len, owns_belowS h.own b, fun i q x y h1 h2 => by obtain ⟨h3, h4⟩ := h.row i q x y h1 h2; exact ⟨h3.below b h3.lt, h4⟩, h.sep⟩
theorem PrO.nil (W : World) : PrO (W.alloc (.cells #[] 22)) W.heap.size (.slice (some ⟨W.heap.size, 0, none⟩) 0 0) [] [] :=
  ⟨rfl, owns_empty W 22, fun i q x y h => by simp at h, fun q h => by cases h⟩
theorem PrO.app {W W3 : World} {base : Nat} {u u' : Value} {ps : List (Nat × Nat)} {qs : List Nat} (h : PrO W base u ps qs) (hb : base ≤ W.heap.size) {x y : Nat} {o : Obj}
    (ho : W3.ownsRow base 22 1 u' (ps.length + 1) ((qs.map fun q => .slice (some ⟨q, 0, none⟩) 2 2) ++ [.slice (some ⟨W.heap.size, 0, none⟩) 2 2]))
    (hg : ((W.alloc (.cells #[.int .i64 ((x : Nat) : Int), .int .i64 ((y : Nat) : Int)] 2)).alloc o).grownBy W3 u.ownBlock) (hu : ∀ g, u'.ownBlock = some g → u.ownBlock = some g ∨ W.heap.size + 2 ≤ g) : PrO W3 base u' (ps ++ [(x, y)]) (qs ++ [W.heap.size]) := by
  have hl := h.len
  have key : ∀ k, k < W.heap.size + 1 → u.ownBlock ≠ some k → W3.heap[k]? = (W.alloc (.cells #[.int .i64 ((x : Nat) : Int), .int .i64 ((y : Nat) : Int)] 2)).heap[k]? := fun k h1 h2 =>
    (hg.block k (by simp; omega) (fun e => h2 e.symm)).trans (Below.heap_alloc _ _ _ (by simp; omega))
  refine ⟨by simp [hl], ?_, fun i q a b h1 h2 => ?_, fun q hq e => ?_⟩
  · rw [List.length_append, List.map_append]; exact ho
  · by_cases hi : i < ps.length
    · rw [List.getElem?_append_left (by omega)] at h1
      rw [List.getElem?_append_left hi] at h2
      obtain ⟨h3, h4⟩ := h.row i q a b h1 h2
      refine ⟨h3.of_block ?_, h4⟩
      rw [key q (by have := h3.lt; omega) (h.sep q (List.mem_of_getElem? h1))]
      exact Below.heap_alloc _ _ _ h3.lt
    · have hi2 : i = ps.length := by
        have := (List.getElem?_eq_some_iff.1 h2).1
        simp at this
        omega
      subst hi2
      rw [List.getElem?_append_right (by omega), hl, Nat.sub_self] at h1
      rw [List.getElem?_append_right (by omega), Nat.sub_self] at h2
      simp at h1 h2
      obtain ⟨rfl, rfl⟩ := h2
      subst h1
      refine ⟨(At.new W _ _).of_block (key _ (by omega) (fun e => ?_)), hb⟩
      have := (h.own.lt _ e).2
      omega
  · rcases List.mem_append.1 hq with h1 | h1
    · rcases hu q e with h2 | h2
      · exact h.sep q h1 h2
      · have := (h.lt h1).1; omega
    · obtain rfl := List.mem_singleton.1 h1
      rcases hu _ e with h2 | h2
      · have := (h.own.lt _ h2).2; omega
      · omega
/-- .. as a list apart from a forest -/
theorem PrO.prl {W : World} {base F E N c : Nat} {lv : Value} {A : Option Addr} {ps : List (Nat × Nat)} {qs : List Nat} (h : PrO W base (.slice A N c) ps qs) (hN : N = ps.length) (hF : F < base) (hE : E < base) (hl : ∀ q, lv.ownBlock = some q → q < base) : PrL W F E lv A c ps := by
  subst hN
  have nb : ∀ q, base ≤ q → lv.ownBlock ≠ some q := fun q h1 e => by have := hl q e; omega
  rcases h.own.2 with ⟨e, e2⟩ | ⟨g, cap, cur, e, h1, h2, h3, h4, h5, h6⟩
  · injection e with e1 e3 e4
    subst e4
    exact ⟨by omega, Nat.zero_le _, fun hn => by omega⟩
  · injection e with e1 e3 e4
    subst e1 e4
    refine ⟨h3, h4, fun hn => ⟨g, 0, rfl, (Array.getElem?_eq_some_iff.1 h2).1, by omega, by omega, nb g h1, fun i x y hi => ?_⟩⟩
    have hil : i < ps.length := (List.getElem?_eq_some_iff.1 hi).1
    have hq : i < qs.length := by have := h.len; omega
    obtain ⟨r1, r2⟩ := h.row i qs[i] x y (List.getElem?_eq_getElem hq) hi
    refine ⟨qs[i], ?_, r1.lt, by omega, by omega, nb _ r2, r1.cellv (i := 0) rfl, r1.cellv (i := 1) rfl⟩
    rw [Nat.zero_add, h.own.cellAt i (by omega)]
    simp [hq]
/-- what pairsAt leaves -/
def Prs (ps : List (Nat × Nat)) (w : World) (e : Ending) (w' : World) : Prop :=
  ∃ A c qs, e = .returned (.slice A ps.length c) ∧ PrO w' w.heap.size (.slice A ps.length c) ps qs ∧ Below w.heap.size w w'
theorem pr_ix0 (w : World) (a b c d : Int) : (Instr.index 196 (.agg #[.int .i64 a, .int .i64 b, .int .i64 c, .int .i64 d]) (.int .i64 0)).run Tryd.prog w = .ok (.agg #[.int .i64 a, .int .i64 b]) w := by kernel_rfl
theorem pr_ix1 (w : World) (a b c d : Int) : (Instr.index 196 (.agg #[.int .i64 a, .int .i64 b, .int .i64 c, .int .i64 d]) (.int .i64 1)).run Tryd.prog w = .ok (.agg #[.int .i64 c, .int .i64 d]) w := by kernel_rfl
theorem tj_at (w : World) (t : Nat) (ht : t < 3) (hJ : Cel w 0 [.int .i64 0, .int .i64 3, .int .i64 1, .int .i64 2, .int .i64 0, .int .i64 2, .int .i64 1, .int .i64 3, .int .i64 0, .int .i64 1, .int .i64 2, .int .i64 3]) : w.cell? ⟨0, t * 4, none⟩ = some (.int .i64 ((dpA t 0).1 : Int)) ∧ w.cell? ⟨0, t * 4 + 1, none⟩ = some (.int .i64 ((dpA t 0).2 : Int)) ∧ w.cell? ⟨0, t * 4 + 2, none⟩ = some (.int .i64 ((dpA t 1).1 : Int)) ∧ w.cell? ⟨0, t * 4 + 3, none⟩ = some (.int .i64 ((dpA t 1).2 : Int)) := by
  have h : t = 0 ∨ t = 1 ∨ t = 2 := by omega
  rcases h with rfl | rfl | rfl <;> exact ⟨hJ.2 _ _ rfl, hJ.2 _ _ rfl, hJ.2 _ _ rfl, hJ.2 _ _ rfl⟩
theorem infoSl : (Tryd.prog.info? 22).map (fun i => (i.zero, i.size, i.bytes)) = some (some (.slice none 0 0), 1, 24) := by kernel_rfl
theorem pr_bd {W H x y : Int} (h : hasB W H x y = true) : 0 ≤ x ∧ x ≤ 2 * W ∧ 0 ≤ y ∧ y ≤ 2 * H := by
  have := has_yes h
  omega
theorem pr_seg {H x y dx dy : Int} (hH : sideB H = true) (x1 : 0 ≤ x) (y1 : 0 ≤ y) (x3 : 0 ≤ x + dx) (y3 : 0 ≤ y + dy) (hx : signB dx = true) (hy : signB dy = true) : 0 ≤ segOf H x y dx dy := by
  have hl : ∀ {a d : Int}, 0 ≤ a → 0 ≤ a + d → signB d = true → 0 ≤ lowI a d := fun {a d} h1 h2 h3 => by
    rcases sign_yes h3 with rfl | rfl <;> unfold lowI <;> (try split) <;> omega
  have h1 := hl x1 x3 hx
  have h2 := hl y1 y3 hy
  have h3 := side_mk hH
  unfold segOf
  have h4 : 0 ≤ lowI x dx * 2 * H := Int.mul_nonneg (by omega) (by omega)
  omega
theorem prK_len (W H X Y : Int) (t : Nat) : ∀ k, k ≤ 2 → (prK W H X Y t k).length ≤ 2
  | 0, _ => Nat.zero_le _
  | 1, _ => by show ([] ++ prD W H X Y t 0).length ≤ 2; unfold prD; split <;> simp
  | 2, _ => by show (([] ++ prD W H X Y t 0) ++ prD W H X Y t 1).length ≤ 2; unfold prD; split <;> split <;> simp
  | k + 3, h => by omega
set_option maxHeartbeats 8000000 in
set_option maxRecDepth 100000 in
theorem impl_pairsAt (w : World) (W H X Y : Int) (t : Nat) (ht : t < 3) (hW : sideB W = true) (hH : sideB H = true) (hp : hasB W H X Y = true) (hD : Cel w 1 [.int .i64 (-1), .int .i64 (-1), .int .i64 1, .int .i64 (-1), .int .i64 (-1), .int .i64 1, .int .i64 1, .int .i64 1]) (hJ : Cel w 0 [.int .i64 0, .int .i64 3, .int .i64 1, .int .i64 2, .int .i64 0, .int .i64 2, .int .i64 1, .int .i64 3, .int .i64 0, .int .i64 1, .int .i64 2, .int .i64 3])
    (hgo : ∀ k, k < 2 → goB W H X Y (ddx (dpA t k).1) (ddy (dpA t k).1) = true → goB W H X Y (ddx (dpA t k).2) (ddy (dpA t k).2) = true) :
    Calls Tryd.prog 113 #[.agg #[.int .i64 W, .int .i64 H], .agg #[.int .i64 X, .int .i64 Y], .int .i64 (t : Int)] w (Prs (prA W H (t : Int) X Y) w) := by
  rw [← prK_two W H X Y t ht]
  obtain ⟨X1, X2, Y1, Y2⟩ := has_bd hW hH hp
  have HWB := Lib.hid (big_side hW)
  have HHB := Lib.hid (big_side hH)
  have HH := Lib.hid hH
  have HGO := Lib.hid hgo
  have HD := Lib.hid hD
  have HJ := Lib.hid hJ
  have HDP := Lib.hid (fun k => dp_lt t k)
  obtain ⟨i2, hi2, hz0, hz1, hz2⟩ := info_parts infoSl
  have a1 := (Below.refl w.heap.size w).alloc (Nat.le_refl _) (.cells #[.int .i64 W, .int .i64 H] 82)
  have a2 := a1.alloc a1.size (.cells #[.int .i64 X, .int .i64 Y] 32)
  have a3 := a2.alloc a2.size (.cells #[] 22)
  have HS0 := Lib.hid (((Cel.new w [.int .i64 W, .int .i64 H] 82).below ((Below.refl _ _).alloc (Nat.le_refl _) (.cells #[.int .i64 X, .int .i64 Y] 32)) (by simp)).below ((Below.refl _ _).alloc (Nat.le_refl _) (.cells #[] 22)) (by simp; omega))
  have HA0 : Hid (Cel (((w.alloc (.cells #[.int .i64 W, .int .i64 H] 82)).alloc (.cells #[.int .i64 X, .int .i64 Y] 32)).alloc (.cells #[] 22)) (w.heap.size + 1) [.int .i64 X, .int .i64 Y]) := Lib.hid (by
    have h := (Cel.new (w.alloc (.cells #[.int .i64 W, .int .i64 H] 82)) [.int .i64 X, .int .i64 Y] 32).below ((Below.refl _ _).alloc (Nat.le_refl _) (.cells #[] 22)) (by simp)
    simpa using h)
  have HO0 : Hid (PrO (((w.alloc (.cells #[.int .i64 W, .int .i64 H] 82)).alloc (.cells #[.int .i64 X, .int .i64 Y] 32)).alloc (.cells #[] 22)) (w.heap.size + 2) (.slice (some ⟨w.heap.size + 2, 0, none⟩) 0 0) [] []) := Lib.hid (by
    have h := PrO.nil ((w.alloc (.cells #[.int .i64 W, .int .i64 H] 82)).alloc (.cells #[.int .i64 X, .int .i64 Y] 32))
    simpa using h)
  have HB0 := Lib.hid a3
  have HDr := Lib.hid (hD.below a3 hD.1)
  obtain ⟨j0, j1, j2, j3⟩ := tj_at _ t ht (hJ.below a3 hJ.1)
  obtain ⟨p0, h0⟩ : ∃ d, (dpA t 0).1 = d := ⟨_, rfl⟩
  obtain ⟨p1, h1⟩ : ∃ d, (dpA t 0).2 = d := ⟨_, rfl⟩
  obtain ⟨p2, h2⟩ : ∃ d, (dpA t 1).1 = d := ⟨_, rfl⟩
  obtain ⟨p3, h3⟩ : ∃ d, (dpA t 1).2 = d := ⟨_, rfl⟩
  have hp0 : p0 < 4 := by rw [← h0]; exact (HDP.out 0).1
  have hp1 : p1 < 4 := by rw [← h1]; exact (HDP.out 0).2
  have hp2 : p2 < 4 := by rw [← h2]; exact (HDP.out 1).1
  have hp3 : p3 < 4 := by rw [← h3]; exact (HDP.out 1).2
  rw [h0] at j0
  rw [h1] at j1
  rw [h2] at j2
  rw [h3] at j3
  have P0 := Lib.hid h0
  have P1 := Lib.hid h1
  have P2 := Lib.hid h2
  have P3 := Lib.hid h3
  clear h0 h1 h2 h3
  have jz : 0 < (((w.alloc (.cells #[.int .i64 W, .int .i64 H] 82)).alloc (.cells #[.int .i64 X, .int .i64 Y] 32)).alloc (.cells #[] 22)).heap.size := (hJ.below a3 hJ.1).1
  have gz : w.heap.size ≠ 0 := by have := hJ.1; omega
  have gz2 : 0 < w.heap.size := by omega
  have hsz3 : (((w.alloc (.cells #[.int .i64 W, .int .i64 H] 82)).alloc (.cells #[.int .i64 X, .int .i64 Y] 32)).alloc (.cells #[] 22)).heap.size = w.heap.size + 3 := by simp
  clear hD hJ hp hW hH hgo a1 a2 a3
  go_enter Tryd.func113, Tryd.ntmps113
  go_wp2
  clear j0 j1 j2 j3
  generalize ((w.alloc (.cells #[.int .i64 W, .int .i64 H] 82)).alloc (.cells #[.int .i64 X, .int .i64 Y] 32)).alloc (.cells #[] 22) = w3 at *
  have HSZ := Lib.hid hsz3
  clear hsz3 jz
  go_loopw [7, 18] (fun u kv wr => ∃ (k : Nat) (qs : List Nat), k ≤ 2 ∧ kv = .int .i64 (k : Int) ∧ Hid (PrO wr (w.heap.size + 2) u (prK W H X Y t k) qs) ∧ Hid (Below (w.heap.size + 2) w3 wr)) (fun _ kv _ => 2 - (intOf kv).toNat)
  case atStart => exact ⟨0, [], Nat.zero_le _, rfl, HO0, Lib.hid (Below.refl _ _)⟩
  case round =>
    clear HO0
    obtain ⟨k, qs, hk, rfl, HO, HB⟩ := hrel
    have hk3 : k = 0 ∨ k = 1 ∨ k = 2 := by omega
    rcases hk3 with rfl | rfl | rfl
    · have hix := fun w => pr_ix0 w (p0 : Int) (p1 : Int) (p2 : Int) (p3 : Int)
      rw [show ((0 : Nat) : Int) = 0 from rfl]
      go_wp2_with fail
      have bN := (Below.refl wr.heap.size wr).alloc (Nat.le_refl _) (.cells #[.int .i64 (p0 : Int), .int .i64 (p1 : Int)] 195)
      have HC9 := Lib.hid (Cel.new wr [.int .i64 (p0 : Int), .int .i64 (p1 : Int)] 195)
      have hw3 := HB.out.size
      have hz3 := HSZ.out
      have HS1 := Lib.hid ((HS0.out.below HB.out (by omega)).below bN (by omega))
      have HA1 := Lib.hid ((HA0.out.below HB.out (by omega)).below bN (by omega))
      have HD1 := Lib.hid ((HDr.out.below HB.out (by have := HD.out.1; omega)).below bN (by have := HD.out.1; omega))
      have HO1 := Lib.hid (HO.out.bel bN)
      have HB1 := Lib.hid (HB.out.trans (bN.mono (by omega)))
      have hbz : w.heap.size + 2 ≤ (wr.alloc (.cells #[.int .i64 (p0 : Int), .int .i64 (p1 : Int)] 195)).heap.size := by simp; omega
      clear bN HO HB
      generalize wr.alloc (.cells #[.int .i64 (p0 : Int), .int .i64 (p1 : Int)] 195) = w4 at *
      generalize wr.heap.size = b9 at *
      clear hix
      have kA_z := HA1.out.1
      have kA_0 := HA1.out.2 0 _ rfl
      have kA_1 := HA1.out.2 1 _ rfl
      have kS_z := HS1.out.1
      have kS_0 := HS1.out.2 0 _ rfl
      have kS_1 := HS1.out.2 1 _ rfl
      have kP_z := HC9.out.1
      have kP_0 := HC9.out.2 0 _ rfl
      have kP_1 := HC9.out.2 1 _ rfl
      refine wp_region_stab [some 21, some 22, some 23, some 24, some 25, some 26, some 27, some 28, some 10, some 11, none, none] [21, 22, 23, 24, 25, 26, 27, 28, 10, 11] [] [(10, 8), (11, 9)]
        [(fun a lo hi v w' => v = .agg #[.int .i64 X, .int .i64 Y]),
          (fun a lo hi v w' => v = .pointer (some ⟨b9, 0, none⟩)),
          (fun a lo hi v w' => v = .int .i64 (p0 : Int)),
          (fun a lo hi v w' => v = .agg #[.int .i64 X, .int .i64 Y, .int .i64 (ddx p0), .int .i64 (ddy p0)]),
          (fun a lo hi v w' => v = .agg #[.int .i64 X, .int .i64 Y]),
          (fun a lo hi v w' => v = .pointer (some ⟨b9, 1, none⟩)),
          (fun a lo hi v w' => v = .int .i64 (p1 : Int)),
          (fun a lo hi v w' => v = .agg #[.int .i64 X, .int .i64 Y, .int .i64 (ddx p1), .int .i64 (ddy p1)]),
          (fun a lo hi v w' => v = .pointer (some ⟨lo, 0, none⟩) ∧ hi = lo + 1 ∧ At w' lo #[.int .i64 0, .int .i64 0, .int .i64 0, .int .i64 0] 192),
          (fun a lo hi v w' => v = .pointer (some ⟨lo, 0, none⟩) ∧ hi = lo + 1 ∧ At w' lo #[.int .i64 0, .int .i64 0, .int .i64 0, .int .i64 0] 192),
          (fun a lo hi v w' => a.getD 0 undef = .pointer (some ⟨lo, 0, none⟩) ∧ lo < hi ∧ At w' lo #[.int .i64 X, .int .i64 Y, .int .i64 (ddx p0), .int .i64 (ddy p0)] 192),
          (fun a lo hi v w' => a.getD 0 undef = .pointer (some ⟨lo, 0, none⟩) ∧ lo < hi ∧ At w' lo #[.int .i64 X, .int .i64 Y, .int .i64 (ddx p1), .int .i64 (ddy p1)] 192)]
        [[], [], [1], [0, 2], [], [], [5], [4, 6], [], [], [8, 3], [9, 7]] [[], [], [], [], [], [], [], [], [], [], [10], [11]] (by kernel_rfl) (by kernel_rfl) (fun k hk => absurd hk List.not_mem_nil) ?gS ?gO ?gR
      case gS => exact ⟨fun _ _ _ _ _ _ h _ => h, fun _ _ _ _ _ _ h _ => h, fun _ _ _ _ _ _ h _ => h, fun _ _ _ _ _ _ h _ => h, fun _ _ _ _ _ _ h _ => h, fun _ _ _ _ _ _ h _ => h, fun _ _ _ _ _ _ h _ => h, fun _ _ _ _ _ _ h _ => h, fun _ _ _ _ _ _ ⟨h1, h2, h3⟩ e => ⟨h1, h2, h3.same e (.inr ⟨Nat.le_refl _, by omega⟩)⟩, fun _ _ _ _ _ _ ⟨h1, h2, h3⟩ e => ⟨h1, h2, h3.same e (.inr ⟨Nat.le_refl _, by omega⟩)⟩, fun _ _ _ _ _ _ ⟨h1, h2, h3⟩ e => ⟨h1, h2, h3.same e (.inr ⟨Nat.le_refl _, h2⟩)⟩, fun _ _ _ _ _ _ ⟨h1, h2, h3⟩ e => ⟨h1, h2, h3.same e (.inr ⟨Nat.le_refl _, h2⟩)⟩, trivial⟩
      case gO =>
        refine ⟨?o0, ?o1, ?o2, ?o3, ?o4, ?o5, ?o6, ?o7, ?o8, ?o9, ?o10, ?o11, trivial⟩
        case o0 =>
          intro vs iv wk hx hf
          have ezz : w.heap.size + 1 < wk.heap.size := Nat.lt_of_lt_of_le kA_z hx.size
          have e0 : wk.cell? ⟨w.heap.size + 1, 0, none⟩ = some (.int .i64 X) := hx.cell kA_0 (by simp)
          have e1 : wk.cell? ⟨w.heap.size + 1, 1, none⟩ = some (.int .i64 Y) := hx.cell kA_1 (by simp)
          intro K' hK
          simp only [setA, setT, List.setIfInBounds_toArray, List.set_cons_zero, List.set_cons_succ]
          go_simp
          refine hK.out _ (.agg #[.int .i64 X, .int .i64 Y]) _ ?_ ?_
          · simp only [setA, setT, List.setIfInBounds_toArray, List.set_cons_zero, List.set_cons_succ, Act.put]
          · exact ⟨Ext.refl _ _, rfl⟩
        case o1 =>
          intro vs iv wk hx hf
          intro K' hK
          simp only [setA, setT, List.setIfInBounds_toArray, List.set_cons_zero, List.set_cons_succ]
          go_simp
          refine hK.out _ (.pointer (some ⟨b9, 0, none⟩)) _ ?_ ?_
          · simp only [setA, setT, List.setIfInBounds_toArray, List.set_cons_zero, List.set_cons_succ, Act.put]
          · exact ⟨Ext.refl _ _, rfl⟩
        case o2 =>
          intro vs iv wk hx hf
          obtain ⟨⟨hq1, -⟩, -⟩ := hf
          have hq1 : vs 22 = .pointer (some ⟨b9, 0, none⟩) := hq1
          have ezz : b9 < wk.heap.size := Nat.lt_of_lt_of_le kP_z hx.size
          have e0 : wk.cell? ⟨b9, 0, none⟩ = some (.int .i64 (p0 : Int)) := hx.cell kP_0 (by simp)
          intro K' hK
          simp only [setA, setT, List.setIfInBounds_toArray, List.set_cons_zero, List.set_cons_succ]
          go_simp
          refine hK.out _ (.int .i64 (p0 : Int)) _ ?_ ?_
          · simp only [setA, setT, List.setIfInBounds_toArray, List.set_cons_zero, List.set_cons_succ, Act.put, hq1]
          · exact ⟨Ext.refl _ _, rfl⟩
        case o3 =>
          intro vs iv wk hx hf
          obtain ⟨⟨hq0, -⟩, ⟨hq2, -⟩, -⟩ := hf
          have hq0 : vs 21 = .agg #[.int .i64 X, .int .i64 Y] := hq0
          have hq2 : vs 23 = .int .i64 (p0 : Int) := hq2
          intro K' hK
          simp only [setA, setT, List.setIfInBounds_toArray, List.set_cons_zero, List.set_cons_succ]
          go_simp
          refine (leaving_any _ X Y p0 hp0 (HD1.out.below (((Ext.drew _).trans hx).nil) HD1.out.1)).mono ?_
          rintro e w2 ⟨rfl, b2⟩
          dsimp only
          refine hK.out _ (.agg #[.int .i64 X, .int .i64 Y, .int .i64 (ddx p0), .int .i64 (ddy p0)]) _ ?_ ?_
          · simp only [setA, setT, List.setIfInBounds_toArray, List.set_cons_zero, List.set_cons_succ, Act.put, hq0, hq2]
          · exact ⟨Ext.of_below b2, rfl⟩
        case o4 =>
          intro vs iv wk hx hf
          have ezz : w.heap.size + 1 < wk.heap.size := Nat.lt_of_lt_of_le kA_z hx.size
          have e0 : wk.cell? ⟨w.heap.size + 1, 0, none⟩ = some (.int .i64 X) := hx.cell kA_0 (by simp)
          have e1 : wk.cell? ⟨w.heap.size + 1, 1, none⟩ = some (.int .i64 Y) := hx.cell kA_1 (by simp)
          intro K' hK
          simp only [setA, setT, List.setIfInBounds_toArray, List.set_cons_zero, List.set_cons_succ]
          go_simp
          refine hK.out _ (.agg #[.int .i64 X, .int .i64 Y]) _ ?_ ?_
          · simp only [setA, setT, List.setIfInBounds_toArray, List.set_cons_zero, List.set_cons_succ, Act.put]
          · exact ⟨Ext.refl _ _, rfl⟩
        case o5 =>
          intro vs iv wk hx hf
          intro K' hK
          simp only [setA, setT, List.setIfInBounds_toArray, List.set_cons_zero, List.set_cons_succ]
          go_simp
          refine hK.out _ (.pointer (some ⟨b9, 1, none⟩)) _ ?_ ?_
          · simp only [setA, setT, List.setIfInBounds_toArray, List.set_cons_zero, List.set_cons_succ, Act.put]
          · exact ⟨Ext.refl _ _, rfl⟩
        case o6 =>
          intro vs iv wk hx hf
          obtain ⟨⟨hq5, -⟩, -⟩ := hf
          have hq5 : vs 26 = .pointer (some ⟨b9, 1, none⟩) := hq5
          have ezz : b9 < wk.heap.size := Nat.lt_of_lt_of_le kP_z hx.size
          have e1 : wk.cell? ⟨b9, 1, none⟩ = some (.int .i64 (p1 : Int)) := hx.cell kP_1 (by simp)
          intro K' hK
          simp only [setA, setT, List.setIfInBounds_toArray, List.set_cons_zero, List.set_cons_succ]
          go_simp
          refine hK.out _ (.int .i64 (p1 : Int)) _ ?_ ?_
          · simp only [setA, setT, List.setIfInBounds_toArray, List.set_cons_zero, List.set_cons_succ, Act.put, hq5]
          · exact ⟨Ext.refl _ _, rfl⟩
        case o7 =>
          intro vs iv wk hx hf
          obtain ⟨⟨hq4, -⟩, ⟨hq6, -⟩, -⟩ := hf
          have hq4 : vs 25 = .agg #[.int .i64 X, .int .i64 Y] := hq4
          have hq6 : vs 27 = .int .i64 (p1 : Int) := hq6
          intro K' hK
          simp only [setA, setT, List.setIfInBounds_toArray, List.set_cons_zero, List.set_cons_succ]
          go_simp
          refine (leaving_any _ X Y p1 hp1 (HD1.out.below (((Ext.drew _).trans hx).nil) HD1.out.1)).mono ?_
          rintro e w2 ⟨rfl, b2⟩
          dsimp only
          refine hK.out _ (.agg #[.int .i64 X, .int .i64 Y, .int .i64 (ddx p1), .int .i64 (ddy p1)]) _ ?_ ?_
          · simp only [setA, setT, List.setIfInBounds_toArray, List.set_cons_zero, List.set_cons_succ, Act.put, hq4, hq6]
          · exact ⟨Ext.of_below b2, rfl⟩
        case o8 =>
          intro vs iv wk hx hf
          intro K' hK
          simp only [setA, setT, List.setIfInBounds_toArray, List.set_cons_zero, List.set_cons_succ]
          go_simp
          refine hK.out _ (.pointer (some ⟨wk.heap.size, 0, none⟩)) _ ?_ ?_
          · simp only [setA, setT, List.setIfInBounds_toArray, List.set_cons_zero, List.set_cons_succ, Act.put]
          · exact ⟨Ext.alloc _ _, rfl, by simp, At.new _ _ _⟩
        case o9 =>
          intro vs iv wk hx hf
          intro K' hK
          simp only [setA, setT, List.setIfInBounds_toArray, List.set_cons_zero, List.set_cons_succ]
          go_simp
          refine hK.out _ (.pointer (some ⟨wk.heap.size, 0, none⟩)) _ ?_ ?_
          · simp only [setA, setT, List.setIfInBounds_toArray, List.set_cons_zero, List.set_cons_succ, Act.put]
          · exact ⟨Ext.alloc _ _, rfl, by simp, At.new _ _ _⟩
        case o10 =>
          intro vs iv wk hx hf
          obtain ⟨⟨⟨h9, hhi, hA9⟩, -⟩, ⟨hq3, -⟩, -⟩ := hf
          have h9 : vs 10 = .pointer (some ⟨(iv 8).1, 0, none⟩) := h9
          have hq3 : vs 24 = .agg #[.int .i64 X, .int .i64 Y, .int .i64 (ddx p0), .int .i64 (ddy p0)] := hq3
          have hA9 : At wk (iv 8).1 #[.int .i64 0, .int .i64 0, .int .i64 0, .int .i64 0] 192 := hA9
          have hhi : (iv 8).2 = (iv 8).1 + 1 := hhi
          have q0 := hA9.cell 0
          have f0 := hA9.frozen 0
          have q1 := hA9.cell 1
          have f1 := hA9.frozen 1
          have q2 := hA9.cell 2
          have f2 := hA9.frozen 2
          have q3 := hA9.cell 3
          have f3 := hA9.frozen 3
          simp only [List.getElem?_toArray, List.getElem?_cons_zero, List.getElem?_cons_succ] at q0 q1 q2 q3
          have hlt9 : (iv 8).1 < (iv 8).2 := by omega
          have HA9 := Lib.hid hA9
          clear hA9 hhi
          have HLT := Lib.hid hlt9
          clear hlt9
          intro K' hK
          simp only [setA, setT, List.setIfInBounds_toArray, List.set_cons_zero, List.set_cons_succ]
          go_simp
          refine hK.out _ (undef) _ ?_ ?_
          · simp only [setA, setT, List.setIfInBounds_toArray, List.set_cons_zero, List.set_cons_succ, Act.put, h9, hq3]
          · exact ⟨HLT.out, ((((Ext.set _ _ _ (by simp)).trans (Ext.set _ _ _ (by simp))).trans (Ext.set _ _ _ (by simp))).trans (Ext.set _ _ _ (by simp))), h9, HLT.out, ((((HA9.out.set 0 _).set 1 _).set 2 _).set 3 _)⟩
        case o11 =>
          intro vs iv wk hx hf
          obtain ⟨⟨⟨h9, hhi, hA9⟩, -⟩, ⟨hq7, -⟩, -⟩ := hf
          have h9 : vs 11 = .pointer (some ⟨(iv 9).1, 0, none⟩) := h9
          have hq7 : vs 28 = .agg #[.int .i64 X, .int .i64 Y, .int .i64 (ddx p1), .int .i64 (ddy p1)] := hq7
          have hA9 : At wk (iv 9).1 #[.int .i64 0, .int .i64 0, .int .i64 0, .int .i64 0] 192 := hA9
          have hhi : (iv 9).2 = (iv 9).1 + 1 := hhi
          have q0 := hA9.cell 0
          have f0 := hA9.frozen 0
          have q1 := hA9.cell 1
          have f1 := hA9.frozen 1
          have q2 := hA9.cell 2
          have f2 := hA9.frozen 2
          have q3 := hA9.cell 3
          have f3 := hA9.frozen 3
          simp only [List.getElem?_toArray, List.getElem?_cons_zero, List.getElem?_cons_succ] at q0 q1 q2 q3
          have hlt9 : (iv 9).1 < (iv 9).2 := by omega
          have HA9 := Lib.hid hA9
          clear hA9 hhi
          have HLT := Lib.hid hlt9
          clear hlt9
          intro K' hK
          simp only [setA, setT, List.setIfInBounds_toArray, List.set_cons_zero, List.set_cons_succ]
          go_simp
          refine hK.out _ (undef) _ ?_ ?_
          · simp only [setA, setT, List.setIfInBounds_toArray, List.set_cons_zero, List.set_cons_succ, Act.put, h9, hq7]
          · exact ⟨HLT.out, ((((Ext.set _ _ _ (by simp)).trans (Ext.set _ _ _ (by simp))).trans (Ext.set _ _ _ (by simp))).trans (Ext.set _ _ _ (by simp))), h9, HLT.out, ((((HA9.out.set 0 _).set 1 _).set 2 _).set 3 _)⟩
      case gR =>
        intro vs iv w5 hx hap hf
        obtain ⟨-, -, -, -, -, -, -, -, -, -, ⟨⟨g0, gl0, gA0⟩, gi0⟩, ⟨⟨g1, gl1, gA1⟩, gi1⟩, -⟩ := hf
        have g0 : vs 10 = .pointer (some ⟨(iv 8).1, 0, none⟩) := g0
        have gA0 : At w5 (iv 8).1 #[.int .i64 X, .int .i64 Y, .int .i64 (ddx p0), .int .i64 (ddy p0)] 192 := gA0
        have g1 : vs 11 = .pointer (some ⟨(iv 9).1, 0, none⟩) := g1
        have gA1 : At w5 (iv 9).1 #[.int .i64 X, .int .i64 Y, .int .i64 (ddx p1), .int .i64 (ddy p1)] 192 := gA1
        have bX := ((Ext.drew _).trans hx).nil
        simp only [setA, setT, List.setIfInBounds_toArray, List.set_cons_zero, List.set_cons_succ, g0, g1]
        generalize (iv 8).1 = bw0 at *
        generalize (iv 9).1 = bw1 at *
        have HG0 := Lib.hid gA0
        have HG1 := Lib.hid gA1
        have HS2 := Lib.hid (HS1.out.below bX HS1.out.1)
        have HO2 := Lib.hid (HO1.out.bel bX)
        have HB2 := Lib.hid (HB1.out.trans (bX.mono (by have := HB1.out.size; omega)))
        have hbz2 : w.heap.size + 2 ≤ w5.heap.size := Nat.le_trans hbz bX.size
        clear hx hap g0 g1 gA0 gA1 gl0 gl1 gi0 gi1 bX HS1 HA1 HC9 HO1 HB1 kA_z kA_0 kA_1 kS_z kS_0 kS_1 kP_z kP_0 kP_1
        have q0 := HG0.out.cellv (i := 0) rfl
        have q1 := HG0.out.cellv (i := 1) rfl
        have q2 := HG0.out.cellv (i := 2) rfl
        have q3 := HG0.out.cellv (i := 3) rfl
        have qz := HG0.out.lt
        have sz := HS2.out.1
        have s0 := HS2.out.2 0 _ rfl
        have s1 := HS2.out.2 1 _ rfl
        obtain ⟨v, hv⟩ : ∃ v, goB W H X Y (ddx p0) (ddy p0) = v := ⟨_, rfl⟩
        have HV := Lib.hid hv
        have HQ := Lib.hid (hasWalker_any w5 W H X Y (ddx p0) (ddy p0) HWB.out HHB.out)
        rw [hv] at HQ
        clear hv
        go_wp2_with fail
        refine HQ.out.mono ?_
        rintro e w6 ⟨rfl, b6⟩
        have HS3 := Lib.hid (HS2.out.below b6 HS2.out.1)
        have HO3 := Lib.hid (HO2.out.bel b6)
        have HB3 := Lib.hid (HB2.out.trans (b6.mono (by have := HB2.out.size; omega)))
        have HG2 := Lib.hid (HG0.out.below b6 HG0.out.lt)
        have HG3 := Lib.hid (HG1.out.below b6 HG1.out.lt)
        have hbz3 : w.heap.size + 2 ≤ w6.heap.size := Nat.le_trans hbz2 b6.size
        clear b6 q0 q1 q2 q3 qz sz s0 s1 HS2 HO2 HB2 HG0 HG1 HQ
        cases v
        · go_wp2
          have he : prK W H X Y t 1 = prK W H X Y t 0 := by show prK W H X Y t 0 ++ prD W H X Y t 0 = _; unfold prD; rw [P0.out, HV.out]; simp
          go_roundw
          case rel => exact ⟨1, qs, by omega, rfl, Lib.hid (by rw [he]; exact HO3.out), HB3⟩
          case measure => simp [intOf]
        · have hg2 := HGO.out 0 (by omega) (by rw [P0.out]; exact HV.out)
          rw [P1.out] at hg2
          obtain ⟨r1, r2, -, r4⟩ := go_yes HV.out
          obtain ⟨t1, t2, -, t4⟩ := go_yes hg2
          obtain ⟨x3, x3b, y3, y3b⟩ := pr_bd r4
          obtain ⟨x4, x4b, y4, y4b⟩ := pr_bd t4
          have HR := Lib.hid (show signB (ddx p0) = true ∧ signB (ddy p0) = true ∧ signB (ddx p1) = true ∧ signB (ddy p1) = true from ⟨r1, r2, t1, t2⟩)
          obtain ⟨sa, hsa⟩ : ∃ s : Nat, segOf H X Y (ddx p0) (ddy p0) = s := ⟨(segOf H X Y (ddx p0) (ddy p0)).toNat, by have := pr_seg HH.out X1 Y1 x3 y3 r1 r2; omega⟩
          obtain ⟨sb, hsb⟩ : ∃ s : Nat, segOf H X Y (ddx p1) (ddy p1) = s := ⟨(segOf H X Y (ddx p1) (ddy p1)).toNat, by have := pr_seg HH.out X1 Y1 x4 y4 t1 t2; omega⟩
          have HSA := Lib.hid hsa
          have HSB := Lib.hid hsb
          have HC1 := Lib.hid (fun w => implSeg w W H X Y (ddx p0) (ddy p0) HH.out X1 X2 Y1 Y2 x3 y3 r1 r2)
          have HC2 := Lib.hid (fun w => implSeg w W H X Y (ddx p1) (ddy p1) HH.out X1 X2 Y1 Y2 x4 y4 t1 t2)
          rw [hsa] at HC1
          rw [hsb] at HC2
          clear hsa hsb r1 r2 t1 t2 r4 t4 hg2
          have q0 := HG2.out.cellv (i := 0) rfl
          have q1 := HG2.out.cellv (i := 1) rfl
          have q2 := HG2.out.cellv (i := 2) rfl
          have q3 := HG2.out.cellv (i := 3) rfl
          have qz := HG2.out.lt
          have p0 := HG3.out.cellv (i := 0) rfl
          have p1 := HG3.out.cellv (i := 1) rfl
          have p2 := HG3.out.cellv (i := 2) rfl
          have p3 := HG3.out.cellv (i := 3) rfl
          have pz := HG3.out.lt
          have sz := HS3.out.1
          have s0 := HS3.out.2 0 _ rfl
          have s1 := HS3.out.2 1 _ rfl
          have OL := Lib.hid (Old.mk_ (Below.refl w6.heap.size w6).drew)
          go_wp2_with fail
          go_region_held3 (fun w' => (∀ b o, b < (w6).heap.size → w'.cell? ⟨b, o, none⟩ = (w6).cell? ⟨b, o, none⟩) ∧ Below (w6).heap.size (w6) w') (first | assumption | exact OL.out | exact Old.trans (by assumption) (by assumption)) (first | (go_at_call 161; (with_reducible refine (HC1.out _).mono ?_); rintro e wa ⟨rfl, ba⟩) | (go_at_call 161; (with_reducible refine (HC2.out _).mono ?_); rintro e wb ⟨rfl, bb⟩))
          rename_i hS
          have b7 := hS.2
          have HO4 := Lib.hid (HO3.out.bel b7)
          have HB4 := Lib.hid (HB3.out.trans (b7.mono (by have := HB3.out.size; omega)))
          have hbz4 : w.heap.size + 2 ≤ wb.heap.size := Nat.le_trans hbz3 b7.size
          clear hS b7 ba bb OL q0 q1 q2 q3 qz p0 p1 p2 p3 pz sz s0 s1 HS3 HO3 HB3 HG2 HG3 HC1 HC2
          obtain ⟨A5, c5, e5⟩ := owns_slice HO4.out.own
          subst e5
          have hmn : min (sa : Int) (sb : Int) = ((min sa sb : Nat) : Int) := by omega
          have hmx : max (sa : Int) (sb : Int) = ((max sa sb : Nat) : Int) := by omega
          have HMN := Lib.hid hmn
          have HMX := Lib.hid hmx
          clear hmn hmx
          have hll : (prK W H X Y t 0).length ≤ 2 := prK_len W H X Y t 0 (by omega)
          have hXa := Lib.hid (((Below.refl wb.heap.size wb).alloc (Nat.le_refl _) (.cells #[.int .i64 (min (sa : Int) (sb : Int)), .int .i64 (max (sa : Int) (sb : Int))] 2)).alloc ((Below.refl wb.heap.size wb).alloc (Nat.le_refl _) (.cells #[.int .i64 (min (sa : Int) (sb : Int)), .int .i64 (max (sa : Int) (sb : Int))] 2)).size (.cells #[.slice (some ⟨wb.heap.size, 0, none⟩) 2 2] 22))
          have hsz : ((wb.alloc (.cells #[.int .i64 (min (sa : Int) (sb : Int)), .int .i64 (max (sa : Int) (sb : Int))] 2)).alloc (.cells #[.slice (some ⟨wb.heap.size, 0, none⟩) 2 2] 22)).heap.size = wb.heap.size + 2 := by simp
          have hsz1 : (wb.alloc (.cells #[.int .i64 (min (sa : Int) (sb : Int)), .int .i64 (max (sa : Int) (sb : Int))] 2)).heap.size = wb.heap.size + 1 := by simp
          have HZ2 := Lib.hid hsz
          have HZ1 := Lib.hid hsz1
          clear hsz hsz1
          go_wp2_with (first
            | (at_builtin; refine wpList_append_lies _ (by rfl) _ _ _ (by rfl) (w.heap.size + 2) 22 i2 _ 1 24 Tryd.underlying44 hi2 hz0 hz1 hz2 rfl (by omega) (.slice A5 (prK W H X Y t 0).length c5) (prK W H X Y t 0).length (qs.map fun q => .slice (some ⟨q, 0, none⟩) 2 2) (by rfl) (owns_belowS HO4.out.own hXa.out) ⟨wb.heap.size + 1, 0, none⟩ 1 1 [.slice (some ⟨wb.heap.size, 0, none⟩) 2 2] (by rfl) (by rfl) (by have h := World.news_of_block (cs := #[.slice (some ⟨wb.heap.size, 0, none⟩) 2 2]) (t := 22) (fr := (0, 0)) (heap_alloc_new (wb.alloc (.cells #[.int .i64 (min (sa : Int) (sb : Int)), .int .i64 (max (sa : Int) (sb : Int))] 2)) _); rw [HZ1.out] at h; exact h) (fun u hu => by simp at hu; subst hu; rfl) (by omega) (by unfold maxLen; omega) (by omega) (by simp; omega) (wb.heap.size + 2) (by simp) ?_; intro g6 cap6 w7 hown6 hgrow6 hat6 hlt6; have HOW := Lib.hid hown6; have HGR := Lib.hid hgrow6; have HAT := Lib.hid hat6; clear hown6 hgrow6 hat6))
          have he : prK W H X Y t 1 = prK W H X Y t 0 ++ [(min sa sb, max sa sb)] := by
            show prK W H X Y t 0 ++ prD W H X Y t 0 = _
            unfold prD sAt
            rw [P0.out, P1.out, HV.out, HSA.out, HSB.out]
            simp
          go_roundw
          case rel =>
            refine ⟨1, qs ++ [wb.heap.size], by omega, rfl, Lib.hid ?_, Lib.hid ?_⟩
            · rw [he]
              have hgr := HGR.out
              rw [HMN.out, HMX.out] at hgr
              refine HO4.out.app (by omega) HOW.out hgr (fun g hg => ?_)
              have e6 : g6 = g := by simpa [Value.ownBlock] using hg
              subst e6
              exact HAT.out.imp id (fun h => by omega)
            · exact (HB4.out.trans (hXa.out.mono (by have := HB4.out.size; omega))).grown HGR.out (by have := HZ2.out; have := HB4.out.size; omega) (fun b e => (HO4.out.own.lt b e).1)
          case measure => simp [intOf]
    · have hix := fun w => pr_ix1 w (p0 : Int) (p1 : Int) (p2 : Int) (p3 : Int)
      rw [show ((1 : Nat) : Int) = 1 from rfl]
      go_wp2_with fail
      have bN := (Below.refl wr.heap.size wr).alloc (Nat.le_refl _) (.cells #[.int .i64 (p2 : Int), .int .i64 (p3 : Int)] 195)
      have HC9 := Lib.hid (Cel.new wr [.int .i64 (p2 : Int), .int .i64 (p3 : Int)] 195)
      have hw3 := HB.out.size
      have hz3 := HSZ.out
      have HS1 := Lib.hid ((HS0.out.below HB.out (by omega)).below bN (by omega))
      have HA1 := Lib.hid ((HA0.out.below HB.out (by omega)).below bN (by omega))
      have HD1 := Lib.hid ((HDr.out.below HB.out (by have := HD.out.1; omega)).below bN (by have := HD.out.1; omega))
      have HO1 := Lib.hid (HO.out.bel bN)
      have HB1 := Lib.hid (HB.out.trans (bN.mono (by omega)))
      have hbz : w.heap.size + 2 ≤ (wr.alloc (.cells #[.int .i64 (p2 : Int), .int .i64 (p3 : Int)] 195)).heap.size := by simp; omega
      clear bN HO HB
      generalize wr.alloc (.cells #[.int .i64 (p2 : Int), .int .i64 (p3 : Int)] 195) = w4 at *
      generalize wr.heap.size = b9 at *
      clear hix
      have kA_z := HA1.out.1
      have kA_0 := HA1.out.2 0 _ rfl
      have kA_1 := HA1.out.2 1 _ rfl
      have kS_z := HS1.out.1
      have kS_0 := HS1.out.2 0 _ rfl
      have kS_1 := HS1.out.2 1 _ rfl
      have kP_z := HC9.out.1
      have kP_0 := HC9.out.2 0 _ rfl
      have kP_1 := HC9.out.2 1 _ rfl
      refine wp_region_stab [some 21, some 22, some 23, some 24, some 25, some 26, some 27, some 28, some 10, some 11, none, none] [21, 22, 23, 24, 25, 26, 27, 28, 10, 11] [] [(10, 8), (11, 9)]
        [(fun a lo hi v w' => v = .agg #[.int .i64 X, .int .i64 Y]),
          (fun a lo hi v w' => v = .pointer (some ⟨b9, 0, none⟩)),
          (fun a lo hi v w' => v = .int .i64 (p2 : Int)),
          (fun a lo hi v w' => v = .agg #[.int .i64 X, .int .i64 Y, .int .i64 (ddx p2), .int .i64 (ddy p2)]),
          (fun a lo hi v w' => v = .agg #[.int .i64 X, .int .i64 Y]),
          (fun a lo hi v w' => v = .pointer (some ⟨b9, 1, none⟩)),
          (fun a lo hi v w' => v = .int .i64 (p3 : Int)),
          (fun a lo hi v w' => v = .agg #[.int .i64 X, .int .i64 Y, .int .i64 (ddx p3), .int .i64 (ddy p3)]),
          (fun a lo hi v w' => v = .pointer (some ⟨lo, 0, none⟩) ∧ hi = lo + 1 ∧ At w' lo #[.int .i64 0, .int .i64 0, .int .i64 0, .int .i64 0] 192),
          (fun a lo hi v w' => v = .pointer (some ⟨lo, 0, none⟩) ∧ hi = lo + 1 ∧ At w' lo #[.int .i64 0, .int .i64 0, .int .i64 0, .int .i64 0] 192),
          (fun a lo hi v w' => a.getD 0 undef = .pointer (some ⟨lo, 0, none⟩) ∧ lo < hi ∧ At w' lo #[.int .i64 X, .int .i64 Y, .int .i64 (ddx p2), .int .i64 (ddy p2)] 192),
          (fun a lo hi v w' => a.getD 0 undef = .pointer (some ⟨lo, 0, none⟩) ∧ lo < hi ∧ At w' lo #[.int .i64 X, .int .i64 Y, .int .i64 (ddx p3), .int .i64 (ddy p3)] 192)]
        [[], [], [1], [0, 2], [], [], [5], [4, 6], [], [], [8, 3], [9, 7]] [[], [], [], [], [], [], [], [], [], [], [10], [11]] (by kernel_rfl) (by kernel_rfl) (fun k hk => absurd hk List.not_mem_nil) ?gS ?gO ?gR
      case gS => exact ⟨fun _ _ _ _ _ _ h _ => h, fun _ _ _ _ _ _ h _ => h, fun _ _ _ _ _ _ h _ => h, fun _ _ _ _ _ _ h _ => h, fun _ _ _ _ _ _ h _ => h, fun _ _ _ _ _ _ h _ => h, fun _ _ _ _ _ _ h _ => h, fun _ _ _ _ _ _ h _ => h, fun _ _ _ _ _ _ ⟨h1, h2, h3⟩ e => ⟨h1, h2, h3.same e (.inr ⟨Nat.le_refl _, by omega⟩)⟩, fun _ _ _ _ _ _ ⟨h1, h2, h3⟩ e => ⟨h1, h2, h3.same e (.inr ⟨Nat.le_refl _, by omega⟩)⟩, fun _ _ _ _ _ _ ⟨h1, h2, h3⟩ e => ⟨h1, h2, h3.same e (.inr ⟨Nat.le_refl _, h2⟩)⟩, fun _ _ _ _ _ _ ⟨h1, h2, h3⟩ e => ⟨h1, h2, h3.same e (.inr ⟨Nat.le_refl _, h2⟩)⟩, trivial⟩
      case gO =>
        refine ⟨?o0, ?o1, ?o2, ?o3, ?o4, ?o5, ?o6, ?o7, ?o8, ?o9, ?o10, ?o11, trivial⟩
        case o0 =>
          intro vs iv wk hx hf
          have ezz : w.heap.size + 1 < wk.heap.size := Nat.lt_of_lt_of_le kA_z hx.size
          have e0 : wk.cell? ⟨w.heap.size + 1, 0, none⟩ = some (.int .i64 X) := hx.cell kA_0 (by simp)
          have e1 : wk.cell? ⟨w.heap.size + 1, 1, none⟩ = some (.int .i64 Y) := hx.cell kA_1 (by simp)
          intro K' hK
          simp only [setA, setT, List.setIfInBounds_toArray, List.set_cons_zero, List.set_cons_succ]
          go_simp
          refine hK.out _ (.agg #[.int .i64 X, .int .i64 Y]) _ ?_ ?_
          · simp only [setA, setT, List.setIfInBounds_toArray, List.set_cons_zero, List.set_cons_succ, Act.put]
          · exact ⟨Ext.refl _ _, rfl⟩
        case o1 =>
          intro vs iv wk hx hf
          intro K' hK
          simp only [setA, setT, List.setIfInBounds_toArray, List.set_cons_zero, List.set_cons_succ]
          go_simp
          refine hK.out _ (.pointer (some ⟨b9, 0, none⟩)) _ ?_ ?_
          · simp only [setA, setT, List.setIfInBounds_toArray, List.set_cons_zero, List.set_cons_succ, Act.put]
          · exact ⟨Ext.refl _ _, rfl⟩
        case o2 =>
          intro vs iv wk hx hf
          obtain ⟨⟨hq1, -⟩, -⟩ := hf
          have hq1 : vs 22 = .pointer (some ⟨b9, 0, none⟩) := hq1
          have ezz : b9 < wk.heap.size := Nat.lt_of_lt_of_le kP_z hx.size
          have e0 : wk.cell? ⟨b9, 0, none⟩ = some (.int .i64 (p2 : Int)) := hx.cell kP_0 (by simp)
          intro K' hK
          simp only [setA, setT, List.setIfInBounds_toArray, List.set_cons_zero, List.set_cons_succ]
          go_simp
          refine hK.out _ (.int .i64 (p2 : Int)) _ ?_ ?_
          · simp only [setA, setT, List.setIfInBounds_toArray, List.set_cons_zero, List.set_cons_succ, Act.put, hq1]
          · exact ⟨Ext.refl _ _, rfl⟩
        case o3 =>
          intro vs iv wk hx hf
          obtain ⟨⟨hq0, -⟩, ⟨hq2, -⟩, -⟩ := hf
          have hq0 : vs 21 = .agg #[.int .i64 X, .int .i64 Y] := hq0
          have hq2 : vs 23 = .int .i64 (p2 : Int) := hq2
          intro K' hK
          simp only [setA, setT, List.setIfInBounds_toArray, List.set_cons_zero, List.set_cons_succ]
          go_simp
          refine (leaving_any _ X Y p2 hp2 (HD1.out.below (((Ext.drew _).trans hx).nil) HD1.out.1)).mono ?_
          rintro e w2 ⟨rfl, b2⟩
          dsimp only
          refine hK.out _ (.agg #[.int .i64 X, .int .i64 Y, .int .i64 (ddx p2), .int .i64 (ddy p2)]) _ ?_ ?_
          · simp only [setA, setT, List.setIfInBounds_toArray, List.set_cons_zero, List.set_cons_succ, Act.put, hq0, hq2]
          · exact ⟨Ext.of_below b2, rfl⟩
        case o4 =>
          intro vs iv wk hx hf
          have ezz : w.heap.size + 1 < wk.heap.size := Nat.lt_of_lt_of_le kA_z hx.size
          have e0 : wk.cell? ⟨w.heap.size + 1, 0, none⟩ = some (.int .i64 X) := hx.cell kA_0 (by simp)
          have e1 : wk.cell? ⟨w.heap.size + 1, 1, none⟩ = some (.int .i64 Y) := hx.cell kA_1 (by simp)
          intro K' hK
          simp only [setA, setT, List.setIfInBounds_toArray, List.set_cons_zero, List.set_cons_succ]
          go_simp
          refine hK.out _ (.agg #[.int .i64 X, .int .i64 Y]) _ ?_ ?_
          · simp only [setA, setT, List.setIfInBounds_toArray, List.set_cons_zero, List.set_cons_succ, Act.put]
          · exact ⟨Ext.refl _ _, rfl⟩
        case o5 =>
          intro vs iv wk hx hf
          intro K' hK
          simp only [setA, setT, List.setIfInBounds_toArray, List.set_cons_zero, List.set_cons_succ]
          go_simp
          refine hK.out _ (.pointer (some ⟨b9, 1, none⟩)) _ ?_ ?_
          · simp only [setA, setT, List.setIfInBounds_toArray, List.set_cons_zero, List.set_cons_succ, Act.put]
          · exact ⟨Ext.refl _ _, rfl⟩
        case o6 =>
          intro vs iv wk hx hf
          obtain ⟨⟨hq5, -⟩, -⟩ := hf
          have hq5 : vs 26 = .pointer (some ⟨b9, 1, none⟩) := hq5
          have ezz : b9 < wk.heap.size := Nat.lt_of_lt_of_le kP_z hx.size
          have e1 : wk.cell? ⟨b9, 1, none⟩ = some (.int .i64 (p3 : Int)) := hx.cell kP_1 (by simp)
          intro K' hK
          simp only [setA, setT, List.setIfInBounds_toArray, List.set_cons_zero, List.set_cons_succ]
          go_simp
          refine hK.out _ (.int .i64 (p3 : Int)) _ ?_ ?_
          · simp only [setA, setT, List.setIfInBounds_toArray, List.set_cons_zero, List.set_cons_succ, Act.put, hq5]
          · exact ⟨Ext.refl _ _, rfl⟩
        case o7 =>
          intro vs iv wk hx hf
          obtain ⟨⟨hq4, -⟩, ⟨hq6, -⟩, -⟩ := hf
          have hq4 : vs 25 = .agg #[.int .i64 X, .int .i64 Y] := hq4
          have hq6 : vs 27 = .int .i64 (p3 : Int) := hq6
          intro K' hK
          simp only [setA, setT, List.setIfInBounds_toArray, List.set_cons_zero, List.set_cons_succ]
          go_simp
          refine (leaving_any _ X Y p3 hp3 (HD1.out.below (((Ext.drew _).trans hx).nil) HD1.out.1)).mono ?_
          rintro e w2 ⟨rfl, b2⟩
          dsimp only
          refine hK.out _ (.agg #[.int .i64 X, .int .i64 Y, .int .i64 (ddx p3), .int .i64 (ddy p3)]) _ ?_ ?_
          · simp only [setA, setT, List.setIfInBounds_toArray, List.set_cons_zero, List.set_cons_succ, Act.put, hq4, hq6]
          · exact ⟨Ext.of_below b2, rfl⟩
        case o8 =>
          intro vs iv wk hx hf
          intro K' hK
          simp only [setA, setT, List.setIfInBounds_toArray, List.set_cons_zero, List.set_cons_succ]
          go_simp
          refine hK.out _ (.pointer (some ⟨wk.heap.size, 0, none⟩)) _ ?_ ?_
          · simp only [setA, setT, List.setIfInBounds_toArray, List.set_cons_zero, List.set_cons_succ, Act.put]
          · exact ⟨Ext.alloc _ _, rfl, by simp, At.new _ _ _⟩
        case o9 =>
          intro vs iv wk hx hf
          intro K' hK
          simp only [setA, setT, List.setIfInBounds_toArray, List.set_cons_zero, List.set_cons_succ]
          go_simp
          refine hK.out _ (.pointer (some ⟨wk.heap.size, 0, none⟩)) _ ?_ ?_
          · simp only [setA, setT, List.setIfInBounds_toArray, List.set_cons_zero, List.set_cons_succ, Act.put]
          · exact ⟨Ext.alloc _ _, rfl, by simp, At.new _ _ _⟩
        case o10 =>
          intro vs iv wk hx hf
          obtain ⟨⟨⟨h9, hhi, hA9⟩, -⟩, ⟨hq3, -⟩, -⟩ := hf
          have h9 : vs 10 = .pointer (some ⟨(iv 8).1, 0, none⟩) := h9
          have hq3 : vs 24 = .agg #[.int .i64 X, .int .i64 Y, .int .i64 (ddx p2), .int .i64 (ddy p2)] := hq3
          have hA9 : At wk (iv 8).1 #[.int .i64 0, .int .i64 0, .int .i64 0, .int .i64 0] 192 := hA9
          have hhi : (iv 8).2 = (iv 8).1 + 1 := hhi
          have q0 := hA9.cell 0
          have f0 := hA9.frozen 0
          have q1 := hA9.cell 1
          have f1 := hA9.frozen 1
          have q2 := hA9.cell 2
          have f2 := hA9.frozen 2
          have q3 := hA9.cell 3
          have f3 := hA9.frozen 3
          simp only [List.getElem?_toArray, List.getElem?_cons_zero, List.getElem?_cons_succ] at q0 q1 q2 q3
          have hlt9 : (iv 8).1 < (iv 8).2 := by omega
          have HA9 := Lib.hid hA9
          clear hA9 hhi
          have HLT := Lib.hid hlt9
          clear hlt9
          intro K' hK
          simp only [setA, setT, List.setIfInBounds_toArray, List.set_cons_zero, List.set_cons_succ]
          go_simp
          refine hK.out _ (undef) _ ?_ ?_
          · simp only [setA, setT, List.setIfInBounds_toArray, List.set_cons_zero, List.set_cons_succ, Act.put, h9, hq3]
          · exact ⟨HLT.out, ((((Ext.set _ _ _ (by simp)).trans (Ext.set _ _ _ (by simp))).trans (Ext.set _ _ _ (by simp))).trans (Ext.set _ _ _ (by simp))), h9, HLT.out, ((((HA9.out.set 0 _).set 1 _).set 2 _).set 3 _)⟩
        case o11 =>
          intro vs iv wk hx hf
          obtain ⟨⟨⟨h9, hhi, hA9⟩, -⟩, ⟨hq7, -⟩, -⟩ := hf
          have h9 : vs 11 = .pointer (some ⟨(iv 9).1, 0, none⟩) := h9
          have hq7 : vs 28 = .agg #[.int .i64 X, .int .i64 Y, .int .i64 (ddx p3), .int .i64 (ddy p3)] := hq7
          have hA9 : At wk (iv 9).1 #[.int .i64 0, .int .i64 0, .int .i64 0, .int .i64 0] 192 := hA9
          have hhi : (iv 9).2 = (iv 9).1 + 1 := hhi
          have q0 := hA9.cell 0
          have f0 := hA9.frozen 0
          have q1 := hA9.cell 1
          have f1 := hA9.frozen 1
          have q2 := hA9.cell 2
          have f2 := hA9.frozen 2
          have q3 := hA9.cell 3
          have f3 := hA9.frozen 3
          simp only [List.getElem?_toArray, List.getElem?_cons_zero, List.getElem?_cons_succ] at q0 q1 q2 q3
          have hlt9 : (iv 9).1 < (iv 9).2 := by omega
          have HA9 := Lib.hid hA9
          clear hA9 hhi
          have HLT := Lib.hid hlt9
          clear hlt9
          intro K' hK
          simp only [setA, setT, List.setIfInBounds_toArray, List.set_cons_zero, List.set_cons_succ]
          go_simp
          refine hK.out _ (undef) _ ?_ ?_
          · simp only [setA, setT, List.setIfInBounds_toArray, List.set_cons_zero, List.set_cons_succ, Act.put, h9, hq7]
          · exact ⟨HLT.out, ((((Ext.set _ _ _ (by simp)).trans (Ext.set _ _ _ (by simp))).trans (Ext.set _ _ _ (by simp))).trans (Ext.set _ _ _ (by simp))), h9, HLT.out, ((((HA9.out.set 0 _).set 1 _).set 2 _).set 3 _)⟩
      case gR =>
        intro vs iv w5 hx hap hf
        obtain ⟨-, -, -, -, -, -, -, -, -, -, ⟨⟨g0, gl0, gA0⟩, gi0⟩, ⟨⟨g1, gl1, gA1⟩, gi1⟩, -⟩ := hf
        have g0 : vs 10 = .pointer (some ⟨(iv 8).1, 0, none⟩) := g0
        have gA0 : At w5 (iv 8).1 #[.int .i64 X, .int .i64 Y, .int .i64 (ddx p2), .int .i64 (ddy p2)] 192 := gA0
        have g1 : vs 11 = .pointer (some ⟨(iv 9).1, 0, none⟩) := g1
        have gA1 : At w5 (iv 9).1 #[.int .i64 X, .int .i64 Y, .int .i64 (ddx p3), .int .i64 (ddy p3)] 192 := gA1
        have bX := ((Ext.drew _).trans hx).nil
        simp only [setA, setT, List.setIfInBounds_toArray, List.set_cons_zero, List.set_cons_succ, g0, g1]
        generalize (iv 8).1 = bw0 at *
        generalize (iv 9).1 = bw1 at *
        have HG0 := Lib.hid gA0
        have HG1 := Lib.hid gA1
        have HS2 := Lib.hid (HS1.out.below bX HS1.out.1)
        have HO2 := Lib.hid (HO1.out.bel bX)
        have HB2 := Lib.hid (HB1.out.trans (bX.mono (by have := HB1.out.size; omega)))
        have hbz2 : w.heap.size + 2 ≤ w5.heap.size := Nat.le_trans hbz bX.size
        clear hx hap g0 g1 gA0 gA1 gl0 gl1 gi0 gi1 bX HS1 HA1 HC9 HO1 HB1 kA_z kA_0 kA_1 kS_z kS_0 kS_1 kP_z kP_0 kP_1
        have q0 := HG0.out.cellv (i := 0) rfl
        have q1 := HG0.out.cellv (i := 1) rfl
        have q2 := HG0.out.cellv (i := 2) rfl
        have q3 := HG0.out.cellv (i := 3) rfl
        have qz := HG0.out.lt
        have sz := HS2.out.1
        have s0 := HS2.out.2 0 _ rfl
        have s1 := HS2.out.2 1 _ rfl
        obtain ⟨v, hv⟩ : ∃ v, goB W H X Y (ddx p2) (ddy p2) = v := ⟨_, rfl⟩
        have HV := Lib.hid hv
        have HQ := Lib.hid (hasWalker_any w5 W H X Y (ddx p2) (ddy p2) HWB.out HHB.out)
        rw [hv] at HQ
        clear hv
        go_wp2_with fail
        refine HQ.out.mono ?_
        rintro e w6 ⟨rfl, b6⟩
        have HS3 := Lib.hid (HS2.out.below b6 HS2.out.1)
        have HO3 := Lib.hid (HO2.out.bel b6)
        have HB3 := Lib.hid (HB2.out.trans (b6.mono (by have := HB2.out.size; omega)))
        have HG2 := Lib.hid (HG0.out.below b6 HG0.out.lt)
        have HG3 := Lib.hid (HG1.out.below b6 HG1.out.lt)
        have hbz3 : w.heap.size + 2 ≤ w6.heap.size := Nat.le_trans hbz2 b6.size
        clear b6 q0 q1 q2 q3 qz sz s0 s1 HS2 HO2 HB2 HG0 HG1 HQ
        cases v
        · go_wp2
          have he : prK W H X Y t 2 = prK W H X Y t 1 := by show prK W H X Y t 1 ++ prD W H X Y t 1 = _; unfold prD; rw [P2.out, HV.out]; simp
          go_roundw
          case rel => exact ⟨2, qs, by omega, rfl, Lib.hid (by rw [he]; exact HO3.out), HB3⟩
          case measure => simp [intOf]
        · have hg2 := HGO.out 1 (by omega) (by rw [P2.out]; exact HV.out)
          rw [P3.out] at hg2
          obtain ⟨r1, r2, -, r4⟩ := go_yes HV.out
          obtain ⟨t1, t2, -, t4⟩ := go_yes hg2
          obtain ⟨x3, x3b, y3, y3b⟩ := pr_bd r4
          obtain ⟨x4, x4b, y4, y4b⟩ := pr_bd t4
          have HR := Lib.hid (show signB (ddx p2) = true ∧ signB (ddy p2) = true ∧ signB (ddx p3) = true ∧ signB (ddy p3) = true from ⟨r1, r2, t1, t2⟩)
          obtain ⟨sa, hsa⟩ : ∃ s : Nat, segOf H X Y (ddx p2) (ddy p2) = s := ⟨(segOf H X Y (ddx p2) (ddy p2)).toNat, by have := pr_seg HH.out X1 Y1 x3 y3 r1 r2; omega⟩
          obtain ⟨sb, hsb⟩ : ∃ s : Nat, segOf H X Y (ddx p3) (ddy p3) = s := ⟨(segOf H X Y (ddx p3) (ddy p3)).toNat, by have := pr_seg HH.out X1 Y1 x4 y4 t1 t2; omega⟩
          have HSA := Lib.hid hsa
          have HSB := Lib.hid hsb
          have HC1 := Lib.hid (fun w => implSeg w W H X Y (ddx p2) (ddy p2) HH.out X1 X2 Y1 Y2 x3 y3 r1 r2)
          have HC2 := Lib.hid (fun w => implSeg w W H X Y (ddx p3) (ddy p3) HH.out X1 X2 Y1 Y2 x4 y4 t1 t2)
          rw [hsa] at HC1
          rw [hsb] at HC2
          clear hsa hsb r1 r2 t1 t2 r4 t4 hg2
          have q0 := HG2.out.cellv (i := 0) rfl
          have q1 := HG2.out.cellv (i := 1) rfl
          have q2 := HG2.out.cellv (i := 2) rfl
          have q3 := HG2.out.cellv (i := 3) rfl
          have qz := HG2.out.lt
          have p0 := HG3.out.cellv (i := 0) rfl
          have p1 := HG3.out.cellv (i := 1) rfl
          have p2 := HG3.out.cellv (i := 2) rfl
          have p3 := HG3.out.cellv (i := 3) rfl
          have pz := HG3.out.lt
          have sz := HS3.out.1
          have s0 := HS3.out.2 0 _ rfl
          have s1 := HS3.out.2 1 _ rfl
          have OL := Lib.hid (Old.mk_ (Below.refl w6.heap.size w6).drew)
          go_wp2_with fail
          go_region_held3 (fun w' => (∀ b o, b < (w6).heap.size → w'.cell? ⟨b, o, none⟩ = (w6).cell? ⟨b, o, none⟩) ∧ Below (w6).heap.size (w6) w') (first | assumption | exact OL.out | exact Old.trans (by assumption) (by assumption)) (first | (go_at_call 161; (with_reducible refine (HC1.out _).mono ?_); rintro e wa ⟨rfl, ba⟩) | (go_at_call 161; (with_reducible refine (HC2.out _).mono ?_); rintro e wb ⟨rfl, bb⟩))
          rename_i hS
          have b7 := hS.2
          have HO4 := Lib.hid (HO3.out.bel b7)
          have HB4 := Lib.hid (HB3.out.trans (b7.mono (by have := HB3.out.size; omega)))
          have hbz4 : w.heap.size + 2 ≤ wb.heap.size := Nat.le_trans hbz3 b7.size
          clear hS b7 ba bb OL q0 q1 q2 q3 qz p0 p1 p2 p3 pz sz s0 s1 HS3 HO3 HB3 HG2 HG3 HC1 HC2
          obtain ⟨A5, c5, e5⟩ := owns_slice HO4.out.own
          subst e5
          have hmn : min (sa : Int) (sb : Int) = ((min sa sb : Nat) : Int) := by omega
          have hmx : max (sa : Int) (sb : Int) = ((max sa sb : Nat) : Int) := by omega
          have HMN := Lib.hid hmn
          have HMX := Lib.hid hmx
          clear hmn hmx
          have hll : (prK W H X Y t 1).length ≤ 2 := prK_len W H X Y t 1 (by omega)
          have hXa := Lib.hid (((Below.refl wb.heap.size wb).alloc (Nat.le_refl _) (.cells #[.int .i64 (min (sa : Int) (sb : Int)), .int .i64 (max (sa : Int) (sb : Int))] 2)).alloc ((Below.refl wb.heap.size wb).alloc (Nat.le_refl _) (.cells #[.int .i64 (min (sa : Int) (sb : Int)), .int .i64 (max (sa : Int) (sb : Int))] 2)).size (.cells #[.slice (some ⟨wb.heap.size, 0, none⟩) 2 2] 22))
          have hsz : ((wb.alloc (.cells #[.int .i64 (min (sa : Int) (sb : Int)), .int .i64 (max (sa : Int) (sb : Int))] 2)).alloc (.cells #[.slice (some ⟨wb.heap.size, 0, none⟩) 2 2] 22)).heap.size = wb.heap.size + 2 := by simp
          have hsz1 : (wb.alloc (.cells #[.int .i64 (min (sa : Int) (sb : Int)), .int .i64 (max (sa : Int) (sb : Int))] 2)).heap.size = wb.heap.size + 1 := by simp
          have HZ2 := Lib.hid hsz
          have HZ1 := Lib.hid hsz1
          clear hsz hsz1
          go_wp2_with (first
            | (at_builtin; refine wpList_append_lies _ (by rfl) _ _ _ (by rfl) (w.heap.size + 2) 22 i2 _ 1 24 Tryd.underlying44 hi2 hz0 hz1 hz2 rfl (by omega) (.slice A5 (prK W H X Y t 1).length c5) (prK W H X Y t 1).length (qs.map fun q => .slice (some ⟨q, 0, none⟩) 2 2) (by rfl) (owns_belowS HO4.out.own hXa.out) ⟨wb.heap.size + 1, 0, none⟩ 1 1 [.slice (some ⟨wb.heap.size, 0, none⟩) 2 2] (by rfl) (by rfl) (by have h := World.news_of_block (cs := #[.slice (some ⟨wb.heap.size, 0, none⟩) 2 2]) (t := 22) (fr := (0, 0)) (heap_alloc_new (wb.alloc (.cells #[.int .i64 (min (sa : Int) (sb : Int)), .int .i64 (max (sa : Int) (sb : Int))] 2)) _); rw [HZ1.out] at h; exact h) (fun u hu => by simp at hu; subst hu; rfl) (by omega) (by unfold maxLen; omega) (by omega) (by simp; omega) (wb.heap.size + 2) (by simp) ?_; intro g6 cap6 w7 hown6 hgrow6 hat6 hlt6; have HOW := Lib.hid hown6; have HGR := Lib.hid hgrow6; have HAT := Lib.hid hat6; clear hown6 hgrow6 hat6))
          have he : prK W H X Y t 2 = prK W H X Y t 1 ++ [(min sa sb, max sa sb)] := by
            show prK W H X Y t 1 ++ prD W H X Y t 1 = _
            unfold prD sAt
            rw [P2.out, P3.out, HV.out, HSA.out, HSB.out]
            simp
          go_roundw
          case rel =>
            refine ⟨2, qs ++ [wb.heap.size], by omega, rfl, Lib.hid ?_, Lib.hid ?_⟩
            · rw [he]
              have hgr := HGR.out
              rw [HMN.out, HMX.out] at hgr
              refine HO4.out.app (by omega) HOW.out hgr (fun g hg => ?_)
              have e6 : g6 = g := by simpa [Value.ownBlock] using hg
              subst e6
              exact HAT.out.imp id (fun h => by omega)
            · exact (HB4.out.trans (hXa.out.mono (by have := HB4.out.size; omega))).grown HGR.out (by have := HZ2.out; have := HB4.out.size; omega) (fun b e => (HO4.out.own.lt b e).1)
          case measure => simp [intOf]
    · go_wp2
      go_ret
      obtain ⟨A, c, e⟩ := owns_slice HO.out.own
      subst e
      exact ⟨A, c, qs, rfl, ⟨HO.out.len, owns_mono HO.out.own (by omega), fun i q x y h1 h2 => by obtain ⟨h3, h4⟩ := HO.out.row i q x y h1 h2; exact ⟨h3, by omega⟩, HO.out.sep⟩, (HB0.out.trans (HB.out.mono (by have := HSZ.out; omega)))⟩
end Go.Proofs.YtjgclemfehfgiaaDoor.Base
namespace Go.Proofs.YtjgclemfehfgiaaDoor.Base
open Go Go.RowKit
set_option linter.unusedVariables false
set_option linter.unusedSimpArgs false

/-- what turns the walkers there joins segments that exist -/
theorem pr_go {W H : Int} {n : Nat} {f : Nat → Int} (hv : validB W H n f = true) {X Y : Int} (hp : hasB W H X Y = true) {d : (Int × Int) × (Int × Int)} (hd : d ∈ dirL (tkOf W H f X Y)) (hg : goB W H X Y d.1.1 d.1.2 = true) : goB W H X Y d.2.1 d.2.2 = true := by
  obtain ⟨s1, s2, e⟩ := dir_of hd
  have hw : okW W H n f (X, Y, d.1.1, d.1.2) = true := by
    show wkB W H n f X Y d.1.1 d.1.2 = true
    rw [wk_is hv]
    exact hg
  have e2 : stp W H f (bkw (X, Y, d.1.1, d.1.2)) = (X, Y, d.2.1, d.2.2) := by
    show (X + d.1.1 + -d.1.1, Y + d.1.2 + -d.1.2, (if tkOf W H f (X + d.1.1 + -d.1.1) (Y + d.1.2 + -d.1.2) = 1 then - -d.1.1 else -d.1.1), (if tkOf W H f (X + d.1.1 + -d.1.1) (Y + d.1.2 + -d.1.2) = 2 then - -d.1.2 else -d.1.2)) = _
    rw [show X + d.1.1 + -d.1.1 = X by omega, show Y + d.1.2 + -d.1.2 = Y by omega, Int.neg_neg, Int.neg_neg, e]
  have h3 := show okW W H n f (stp W H f (bkw (X, Y, d.1.1, d.1.2))) = true from stps_ok (bkw_ok hw) 1
  rw [e2] at h3
  exact (wk_valid h3).2
theorem tk_kindP {W H : Int} {n : Nat} {f : Nat → Int} (hv : validB W H n f = true) {x y : Int} (hh : hasB W H x y = true) : 0 ≤ tkOf W H f x y ∧ tkOf W H f x y ≤ 2 := by
  obtain ⟨hW, hH, hn, hK⟩ := validB_yes hv
  by_cases a1 : x = 0 ∨ x = 2 * W
  · rw [tk_A a1]; omega
  · by_cases a2 : y = 0 ∨ y = 2 * H
    · rw [tk_B a1 a2]; omega
    · rw [tk_C a1 a2]
      obtain ⟨l1, l2⟩ := num_lt hW hH hh (edge_mk a1 a2)
      exact kinds_iff.1 hK _ (by omega)
/-- the directions by numbers -/
theorem dp_dir (t : Nat) (ht : t < 3) (k : Nat) (hk : k < 2) : ((ddx (dpA t k).1, ddy (dpA t k).1), (ddx (dpA t k).2, ddy (dpA t k).2)) ∈ dirL (t : Int) := by
  have h : t = 0 ∨ t = 1 ∨ t = 2 := by omega
  have h2 : k = 0 ∨ k = 1 := by omega
  rcases h with rfl | rfl | rfl <;> rcases h2 with rfl | rfl <;> decide
theorem keepP {w w1 : World} (h : Old w w1) {p : Nat} {cs : List Value} (hc : Cel w p cs) : Cel w1 p cs := hc.below h.2 hc.1
set_option maxHeartbeats 4000000 in
theorem impl_ppairsAt (w : World) (W H : Int) (A : Option Addr) (n c : Nat) (f : Nat → Int) (X Y : Int) (hv : validB W H n f = true) (hr : Row .i64 w A n c f) (hp : hasB W H X Y = true) (hD : Cel w 1 [.int .i64 (-1), .int .i64 (-1), .int .i64 1, .int .i64 (-1), .int .i64 (-1), .int .i64 1, .int .i64 1, .int .i64 1]) (hJ : Cel w 0 [.int .i64 0, .int .i64 3, .int .i64 1, .int .i64 2, .int .i64 0, .int .i64 2, .int .i64 1, .int .i64 3, .int .i64 0, .int .i64 1, .int .i64 2, .int .i64 3]) :
    Calls Tryd.prog 75 #[.agg #[.int .i64 W, .int .i64 H, .slice A n c], .agg #[.int .i64 X, .int .i64 Y]] w (Prs (prA W H (tkOf W H f X Y) X Y) w) := by
  obtain ⟨hW, hH, hn, -⟩ := validB_yes hv
  obtain ⟨k0, k1⟩ := tk_kindP hv hp
  obtain ⟨t, ht⟩ : ∃ t : Nat, tkOf W H f X Y = t := ⟨(tkOf W H f X Y).toNat, by omega⟩
  have ht3 : t < 3 := by omega
  have HG := Lib.hid (fun k (hk : k < 2) (hg : goB W H X Y (ddx (dpA t k).1) (ddy (dpA t k).1) = true) => (pr_go hv hp (by rw [ht]; exact dp_dir t ht3 k hk) hg : goB W H X Y (ddx (dpA t k).2) (ddy (dpA t k).2) = true))
  have hL := show Below w.heap.size w ((w.alloc (.cells #[.int .i64 W, .int .i64 H, .slice A n c] 30)).alloc (.cells #[.int .i64 X, .int .i64 Y] 32)) from by go_grown
  have HL := Lib.hid hL
  have HR := Lib.hid (hr.below hL (Nat.le_refl _))
  have HD := Lib.hid (hD.below hL hD.1)
  have HJ := Lib.hid (hJ.below hL hJ.1)
  have HX : Hid (Cel ((w.alloc (.cells #[.int .i64 W, .int .i64 H, .slice A n c] 30)).alloc (.cells #[.int .i64 X, .int .i64 Y] 32)) w.heap.size [.int .i64 W, .int .i64 H, .slice A n c]) := Lib.hid ((Cel.new w [.int .i64 W, .int .i64 H, .slice A n c] 30).below ((Below.refl _ _).alloc (Nat.le_refl _) (.cells #[.int .i64 X, .int .i64 Y] 32)) (by simp))
  have HY : Hid (Cel ((w.alloc (.cells #[.int .i64 W, .int .i64 H, .slice A n c] 30)).alloc (.cells #[.int .i64 X, .int .i64 Y] 32)) (w.heap.size + 1) [.int .i64 X, .int .i64 Y]) := Lib.hid (by
    have h := Cel.new (w.alloc (.cells #[.int .i64 W, .int .i64 H, .slice A n c] 30)) [.int .i64 X, .int .i64 Y] 32
    simpa using h)
  have HTT := Lib.hid (fun w1 (h : Row .i64 w1 A n c f) => (show Calls Tryd.prog 127 #[.agg #[.int .i64 W, .int .i64 H, .slice A n c], .agg #[.int .i64 X, .int .i64 Y]] w1 (Gives (.int .i64 (t : Int)) w1) from ht ▸ implTurn w1 W H A n c f X Y h hn hW hH hp))
  have HPT := Lib.hid (fun w1 hD hJ => impl_pairsAt w1 W H X Y t ht3 hW hH hp hD hJ HG.out)
  rw [ht]
  have hz2 : ((w.alloc (.cells #[.int .i64 W, .int .i64 H, .slice A n c] 30)).alloc (.cells #[.int .i64 X, .int .i64 Y] 32)).heap.size = w.heap.size + 2 := by simp
  have HZ2 := Lib.hid hz2
  clear hD hJ hr hL hv hp ht hz2 k0 k1
  go_enter Tryd.func75, Tryd.ntmps75
  go_wp2
  generalize ((w.alloc (.cells #[.int .i64 W, .int .i64 H, .slice A n c] 30)).alloc (.cells #[.int .i64 X, .int .i64 Y] 32)) = w2 at *
  have OL := Lib.hid (Old.mk_ (Below.refl w2.heap.size w2).drew)
  have x0 := HX.out.2 0 _ rfl
  have x1 := HX.out.2 1 _ rfl
  have x2 := HX.out.2 2 _ rfl
  have xz := HX.out.1
  have y0 := HY.out.2 0 _ rfl
  have y1 := HY.out.2 1 _ rfl
  have yz := HY.out.1
  go_region_held3 (fun w' => (∀ b o, b < (w2).heap.size → w'.cell? ⟨b, o, none⟩ = (w2).cell? ⟨b, o, none⟩) ∧ Below (w2).heap.size (w2) w') (first | assumption | exact OL.out | exact Old.trans (by assumption) (by assumption))
    (first | (go_at_call 61; refine (sizeOf_any _ _ _ _ _ _).mono ?_; rintro e wa ⟨rfl, ba⟩) | (go_at_call 127; refine (HTT.out _ ?_).mono ?_; exact HR.out.old (by assumption); rintro e wb ⟨rfl, bb⟩) | (go_at_call 113; refine (HPT.out _ ?_ ?_).mono ?_; exact keepP (by assumption) HD.out; exact keepP (by assumption) HJ.out; rintro e wc ⟨A5, c5, qs5, rfl, RM, bc⟩))
  all_goals
    rename_i hS
    have b8 := hS.2
    have HB := Lib.hid (HL.out.trans (b8.mono HL.out.size))
    have hw : w.heap.size ≤ wb.heap.size := Nat.le_trans HL.out.size (Nat.le_trans (show w2.heap.size ≤ wa.heap.size from ba.size) (show wa.heap.size ≤ wb.heap.size from bb.size))
    clear hS
    go_wp2
    go_ret
    exact ⟨A5, c5, qs5, rfl, ⟨RM.len, owns_mono RM.own hw, fun i q x y h1 h2 => by obtain ⟨h3, h4⟩ := RM.row i q x y h1 h2; exact ⟨h3, by omega⟩, RM.sep⟩, HB.out⟩
end Go.Proofs.YtjgclemfehfgiaaDoor.Base
namespace Go.Proofs.YtjgclemfehfgiaaDoor.Base
open Go Go.RowKit
set_option linter.unusedVariables false
set_option linter.unusedSimpArgs false

theorem run_append_none0 {P : Program} {w : World} (base : Nat) (t ty e : TypeId) (i : TypeInfo) (size : Nat) (ht : P.underlying t = some (.slice e)) (hi : P.info? e = some i)
    (v : Value) (n : Nat) (xs : List Value) (hown : w.ownsRow base e size v n xs) (c : Nat) :
    (Builtin.append_ #[t, t] ty #[v, .slice none 0 c]).run P w = .ok v w := by
  rcases hown.2 with ⟨rfl, rfl⟩ | ⟨g, cap, cur, rfl, _, _, hnc, _⟩
  · simp [Builtin.append_, run_underlying ht, sizeOf, typeInfo, hi, Builtin.lenOf, Builtin.firstCells]
  · simp [Builtin.append_, run_underlying ht, sizeOf, typeInfo, hi, Builtin.lenOf, Builtin.firstCells, hnc, storeCells]
theorem wpList_append_none0 {P : Program} {w : World} {ops : Array Oper} {rest : List Oper} {o : Oper} {a : Act} {Q : Exit → Act → World → Prop} (hgd : o.guard = none) (s x : Operand) (t : TypeId)
    (ho : o.op = .call { callee := .builtin .append, args := #[s, x], argTypes := #[t, t] })
    (base : Nat) (e : TypeId) (i : TypeInfo) (size : Nat) (ht : P.underlying t = some (.slice e)) (hi : P.info? e = some i)
    (v : Value) (n : Nat) (xs : List Value) (hs : a.eval s = v) (hown : w.ownsRow base e size v n xs) (c : Nat) (hx : a.eval x = .slice none 0 c)
    (h : wpList P ops Q rest (a.put o.dst v) w) : wpList P ops Q (o :: rest) a w := by
  refine wpList_plain hgd fun K hK => ?_
  have hrun := run_append_none0 (P := P) (w := w) base t o.type e i size ht hi v n xs hown c
  unfold Oper.wp
  simp [execOp, ho, resolve, invoke, builtin, hs, hx, hrun, Result.andThen]
  exact hK _ _ h
theorem ownRow_zero {w : World} {base : Nat} {A : Option Addr} {c : Nat} {f : Nat → Int} (h : c ≤ maxLen) : OwnRow w base A 0 c f :=
  ⟨Nat.zero_le _, h, fun i hi => absurd hi (Nat.not_lt_zero _), fun h => absurd h (Nat.lt_irrefl _)⟩
theorem spec_own0 (w : World) (A : Option Addr) (c : Nat) (f : Nat → Int) :
    Calls Tryd.prog 147 #[.slice A 0 c] w (SliceOut 0 f w) := by
  obtain ⟨i0, hi, hz0, hz1, hz2⟩ := info_parts infoI64
  have HBL := Lib.hid (show Below w.heap.size w (w.alloc (.cells #[] 2)) from (Below.refl _ _).alloc (Nat.le_refl _) _)
  cases A with
  | none =>
    go_enter Tryd.func147, Tryd.ntmps147
    go_wp2_with (at_builtin; refine wpList_append_none0 rfl (.tmp 3) (.tmp 4) 22 rfl w.heap.size 2 i0 1 Tryd.underlying22 hi _ 0 [] rfl (owns_empty w _) c rfl ?_)
    go_ret
    exact ⟨some ⟨w.heap.size, 0, none⟩, 0, rfl, ownRow_zero (Nat.zero_le _), HBL.out⟩
  | some ad =>
    go_enter Tryd.func147, Tryd.ntmps147
    go_wp2_with (at_builtin; refine wpList_append_own _ rfl (.tmp 3) (.tmp 4) 22 rfl w.heap.size 2 i0 (.int .i64 0) 1 8 Tryd.underlying22 hi hz0 hz1 hz2 rfl (by decide) _ 0 [] rfl (owns_empty w _) ad 0 c [] rfl rfl (fun j u hj => by simp at hj) (fun u hu => by simp at hu) (by decide) (by decide) (by simp) ?_)
    intro v' w1 hown hg _
    have hB : Below w.heap.size w w1 := HBL.out.grown hg (by simp) (fun k hk => by simp [Value.ownBlock] at hk; omega)
    have HBB := Lib.hid hB
    have hS : ∃ A' c', v' = .slice A' 0 c' ∧ c' ≤ maxLen := by
      rcases hown.2 with ⟨rfl, -⟩ | ⟨g, cap, cur, rfl, -, -, -, hcm, -⟩
      · exact ⟨none, 0, rfl, Nat.zero_le _⟩
      · exact ⟨_, cap, rfl, hcm⟩
    obtain ⟨A', c', rfl, hm⟩ := hS
    clear hown hg hB
    go_wp2
    go_ret
    exact ⟨A', c', rfl, ownRow_zero hm, HBB.out⟩
theorem spec_own_any (w : World) (A : Option Addr) (n c : Nat) (f : Nat → Int) (hr : Row .i64 w A n c f) (hn2 : n ≤ 1048576) :
    Calls Tryd.prog 147 #[.slice A n c] w (SliceOut n f w) := by
  by_cases h : 0 < n
  · exact spec_own w A n c f hr h hn2
  · obtain rfl : n = 0 := by omega
    exact spec_own0 w A c f
theorem lib_clone0 (w : World) (b o c : Nat) (f : Nat → Int) :
    Calls Tryd.prog 106 #[.slice (some ⟨b, o, none⟩) 0 c] w (SliceOut 0 f w) := by
  obtain ⟨i0, hi, hz0, hz1, hz2⟩ := info_parts infoI64
  have HBL := Lib.hid (show Below w.heap.size w (w.alloc (.cells #[] 2)) from (Below.refl _ _).alloc (Nat.le_refl _) _)
  have hnil := fun (W : World) => Lib.run_eql_slice_nil (P := Tryd.prog) W 22 2 (some ⟨b, o, none⟩) 0 c 0 0 Tryd.underlying22
  go_enter Tryd.func106, Tryd.ntmps106
  go_wp2_with (at_builtin; refine wpList_append_own _ rfl (.tmp 5) (.tmp 6) 22 rfl w.heap.size 2 i0 (.int .i64 0) 1 8 Tryd.underlying22 hi hz0 hz1 hz2 rfl (by decide) _ 0 [] rfl (owns_empty w _) ⟨b, o, none⟩ 0 c [] rfl rfl (fun j u hj => by simp at hj) (fun u hu => by simp at hu) (by decide) (by decide) (by simp) ?_)
  intro v' w1 hown hg _
  have hB : Below w.heap.size w w1 := HBL.out.grown hg (by simp) (fun k hk => by simp [Value.ownBlock] at hk; omega)
  have HBB := Lib.hid hB
  have hS : ∃ A' c', v' = .slice A' 0 c' ∧ c' ≤ maxLen := by
    rcases hown.2 with ⟨rfl, -⟩ | ⟨g, cap, cur, rfl, -, -, -, hcm, -⟩
    · exact ⟨none, 0, rfl, Nat.zero_le _⟩
    · exact ⟨_, cap, rfl, hcm⟩
  obtain ⟨A', c', rfl, hm⟩ := hS
  clear hown hg hB
  go_wp2
  go_ret
  exact ⟨A', c', rfl, ownRow_zero hm, HBB.out⟩
theorem lib_clone_some (w : World) (b o n c : Nat) (f : Nat → Int) (hr : Row .i64 w (some ⟨b, o, none⟩) n c f) (hn2 : n ≤ 1048576) :
    Calls Tryd.prog 106 #[.slice (some ⟨b, o, none⟩) n c] w (SliceOut n f w) := by
  by_cases h : 0 < n
  · exact lib_clone w _ n c f hr h hn2
  · obtain rfl : n = 0 := by omega
    exact lib_clone0 w b o c f
end Go.Proofs.YtjgclemfehfgiaaDoor.Base
