/-
  The walker along a segment: spec's and the program's.
-/
import Derived.Test.YtfkodbpkfoecoaaDoorSeg
namespace Go.Proofs.YtfkodbpkfoecoaaDoor.Base
open Go.RowKit
set_option linter.unusedVariables false

def wtX (H s : Int) : Int := s / (2 * H)
def wtY (H s : Int) : Int := if (s / (2 * H) + s % (2 * H)) % 2 = 1 then s % (2 * H) else s % (2 * H) + 1
def wtD (H s : Int) : Int := if (s / (2 * H) + s % (2 * H)) % 2 = 1 then 1 else -1
theorem wt_bd {H s : Int} (hH : sideB H = true) (h0 : 0 ≤ s) (h1 : s ≤ 255) : 0 ≤ s / (2 * H) ∧ s / (2 * H) ≤ 255 ∧ 0 ≤ s % (2 * H) ∧ s % (2 * H) < 2 * H ∧ 1 ≤ H ∧ H ≤ 8 := by
  obtain ⟨b1, b2⟩ := side_mk hH
  exact ⟨Int.ediv_nonneg h0 (by omega), Int.le_trans (Int.ediv_le_self _ h0) h1, Int.emod_nonneg _ (by omega), Int.emod_lt_of_pos _ (by omega), b1, b2⟩

theorem specWalkerEE (w : World) (p : Nat) (W H : Int) (A : Option Addr) (n c : Nat) (s : Int) (hb : Box w p W H A n c) (hH : sideB H = true) (h0 : 0 ≤ s) (h1 : s ≤ 255) (hx : s / (2 * H) % 2 = 0) (hk : s % 2 = 0) :
    Calls Tryd.prog 62 #[.pointer (some ⟨p, 0, none⟩), .int .i64 s] w (Gives (.agg #[.int .i64 (wtX H s), .int .i64 (wtY H s), .int .i64 1, .int .i64 (wtD H s)]) w) := by
  obtain ⟨a1, a2, a3, a4, a5, a6⟩ := wt_bd hH h0 h1
  have em : s % (2 * H) % 2 = s % 2 := Int.emod_emod_of_dvd s (Int.dvd_mul_right 2 H)
  have eX : wtX H s = s / (2 * H) := rfl
  have eY : wtY H s = s % (2 * H) / 2 * 2 + 1 := by unfold wtY; split <;> omega
  have eD : wtD H s = 2 * (s % 2) - 1 := by unfold wtD; split <;> omega
  rw [eX, eY, eD]
  have gx : (s / (2 * H) % 2 == 0) = true := beq_iff_eq.2 hx
  obtain ⟨hp, k0, k1, k2⟩ := hb
  clear eX eY eD hH hx hk em
  go_enter Tryd.func62, Tryd.ntmps62
  go_wp2
  refine bodyPost_ret ?_ rfl ⟨rfl, ?_⟩
  · simp [results, Tryd.results62, go_sem]
  · go_grown

theorem specWalkerEO (w : World) (p : Nat) (W H : Int) (A : Option Addr) (n c : Nat) (s : Int) (hb : Box w p W H A n c) (hH : sideB H = true) (h0 : 0 ≤ s) (h1 : s ≤ 255) (hx : s / (2 * H) % 2 = 0) (hk : s % 2 = 1) :
    Calls Tryd.prog 62 #[.pointer (some ⟨p, 0, none⟩), .int .i64 s] w (Gives (.agg #[.int .i64 (wtX H s), .int .i64 (wtY H s), .int .i64 1, .int .i64 (wtD H s)]) w) := by
  obtain ⟨a1, a2, a3, a4, a5, a6⟩ := wt_bd hH h0 h1
  have em : s % (2 * H) % 2 = s % 2 := Int.emod_emod_of_dvd s (Int.dvd_mul_right 2 H)
  have eX : wtX H s = s / (2 * H) := rfl
  have eY : wtY H s = s % (2 * H) / 2 * 2 + 1 := by unfold wtY; split <;> omega
  have eD : wtD H s = 2 * (s % 2) - 1 := by unfold wtD; split <;> omega
  rw [eX, eY, eD]
  have gx : (s / (2 * H) % 2 == 0) = true := beq_iff_eq.2 hx
  obtain ⟨hp, k0, k1, k2⟩ := hb
  clear eX eY eD hH hx hk em
  go_enter Tryd.func62, Tryd.ntmps62
  go_wp2
  refine bodyPost_ret ?_ rfl ⟨rfl, ?_⟩
  · simp [results, Tryd.results62, go_sem]
  · go_grown

theorem specWalkerOE (w : World) (p : Nat) (W H : Int) (A : Option Addr) (n c : Nat) (s : Int) (hb : Box w p W H A n c) (hH : sideB H = true) (h0 : 0 ≤ s) (h1 : s ≤ 255) (hx : s / (2 * H) % 2 = 1) (hk : s % 2 = 0) :
    Calls Tryd.prog 62 #[.pointer (some ⟨p, 0, none⟩), .int .i64 s] w (Gives (.agg #[.int .i64 (wtX H s), .int .i64 (wtY H s), .int .i64 1, .int .i64 (wtD H s)]) w) := by
  obtain ⟨a1, a2, a3, a4, a5, a6⟩ := wt_bd hH h0 h1
  have em : s % (2 * H) % 2 = s % 2 := Int.emod_emod_of_dvd s (Int.dvd_mul_right 2 H)
  have eX : wtX H s = s / (2 * H) := rfl
  have eY : wtY H s = (s % (2 * H) + 1) / 2 * 2 := by unfold wtY; split <;> omega
  have eD : wtD H s = 1 := by unfold wtD; split <;> omega
  rw [eX, eY, eD]
  have gx : (s / (2 * H) % 2 == 0) = false := beq_eq_false_iff_ne.2 (by omega)
  have gk : (s % 2 == 1) = false := beq_eq_false_iff_ne.2 (by omega)
  obtain ⟨hp, k0, k1, k2⟩ := hb
  clear eX eY eD hH hx hk em
  go_enter Tryd.func62, Tryd.ntmps62
  go_wp2
  refine bodyPost_ret ?_ rfl ⟨rfl, ?_⟩
  · simp [results, Tryd.results62, go_sem]
  · go_grown

theorem specWalkerOO (w : World) (p : Nat) (W H : Int) (A : Option Addr) (n c : Nat) (s : Int) (hb : Box w p W H A n c) (hH : sideB H = true) (h0 : 0 ≤ s) (h1 : s ≤ 255) (hx : s / (2 * H) % 2 = 1) (hk : s % 2 = 1) :
    Calls Tryd.prog 62 #[.pointer (some ⟨p, 0, none⟩), .int .i64 s] w (Gives (.agg #[.int .i64 (wtX H s), .int .i64 (wtY H s), .int .i64 1, .int .i64 (wtD H s)]) w) := by
  obtain ⟨a1, a2, a3, a4, a5, a6⟩ := wt_bd hH h0 h1
  have em : s % (2 * H) % 2 = s % 2 := Int.emod_emod_of_dvd s (Int.dvd_mul_right 2 H)
  have eX : wtX H s = s / (2 * H) := rfl
  have eY : wtY H s = (s % (2 * H) + 1) / 2 * 2 := by unfold wtY; split <;> omega
  have eD : wtD H s = -1 := by unfold wtD; split <;> omega
  rw [eX, eY, eD]
  have gx : (s / (2 * H) % 2 == 0) = false := beq_eq_false_iff_ne.2 (by omega)
  have gk : (s % 2 == 1) = true := beq_iff_eq.2 hk
  obtain ⟨hp, k0, k1, k2⟩ := hb
  clear eX eY eD hH hx hk em
  go_enter Tryd.func62, Tryd.ntmps62
  go_wp2
  refine bodyPost_ret ?_ rfl ⟨rfl, ?_⟩
  · simp [results, Tryd.results62, go_sem]
  · go_grown

theorem implWalker1 (w : World) (W H : Int) (s : Int) (hH : sideB H = true) (h0 : 0 ≤ s) (h1 : s ≤ 255) (hx : (s / (2 * H) + s % (2 * H)) % 2 = 1) :
    Calls Tryd.prog 125 #[.agg #[.int .i64 W, .int .i64 H], .int .i64 s] w (Gives (.agg #[.int .i64 (wtX H s), .int .i64 (wtY H s), .int .i64 1, .int .i64 (wtD H s)]) w) := by
  obtain ⟨a1, a2, a3, a4, a5, a6⟩ := wt_bd hH h0 h1
  have eX : wtX H s = s / (2 * H) := rfl
  have eY : wtY H s = s % (2 * H) := by unfold wtY; split <;> omega
  have eD : wtD H s = 1 := by unfold wtD; split <;> omega
  rw [eX, eY, eD]
  have gx : ((s / (2 * H) + s % (2 * H)) % 2 == 1) = true := beq_iff_eq.2 hx
  clear eX eY eD hH hx
  go_enter Tryd.func125, Tryd.ntmps125
  go_wp2
  go_quiet (fail)
  go_wp2
  refine bodyPost_ret ?_ rfl ⟨rfl, ?_⟩
  · simp [results, Tryd.results125, go_sem]
  · exact ((((below_drewN (((Below.refl w.heap.size w).alloc (Nat.le_refl _) _).alloc (by simp) _) _).setCell (by first | (simp; done) | (simp; omega)) _).setCell (by first | (simp; done) | (simp; omega)) _).setCell (by first | (simp; done) | (simp; omega)) _).setCell (by first | (simp; done) | (simp; omega)) _

theorem implWalker0 (w : World) (W H : Int) (s : Int) (hH : sideB H = true) (h0 : 0 ≤ s) (h1 : s ≤ 255) (hx : (s / (2 * H) + s % (2 * H)) % 2 ≠ 1) :
    Calls Tryd.prog 125 #[.agg #[.int .i64 W, .int .i64 H], .int .i64 s] w (Gives (.agg #[.int .i64 (wtX H s), .int .i64 (wtY H s), .int .i64 1, .int .i64 (wtD H s)]) w) := by
  obtain ⟨a1, a2, a3, a4, a5, a6⟩ := wt_bd hH h0 h1
  have eX : wtX H s = s / (2 * H) := rfl
  have eY : wtY H s = s % (2 * H) + 1 := by unfold wtY; split <;> omega
  have eD : wtD H s = -1 := by unfold wtD; split <;> omega
  rw [eX, eY, eD]
  have gx : ((s / (2 * H) + s % (2 * H)) % 2 == 1) = false := beq_eq_false_iff_ne.2 hx
  clear eX eY eD hH hx
  go_enter Tryd.func125, Tryd.ntmps125
  go_wp2
  go_quiet (fail)
  go_wp2
  refine bodyPost_ret ?_ rfl ⟨rfl, ?_⟩
  · simp [results, Tryd.results125, go_sem]
  · exact ((((below_drewN (((Below.refl w.heap.size w).alloc (Nat.le_refl _) _).alloc (by simp) _) _).setCell (by first | (simp; done) | (simp; omega)) _).setCell (by first | (simp; done) | (simp; omega)) _).setCell (by first | (simp; done) | (simp; omega)) _).setCell (by first | (simp; done) | (simp; omega)) _

theorem specWalker (w : World) (p : Nat) (W H : Int) (A : Option Addr) (n c : Nat) (s : Int) (hb : Box w p W H A n c) (hH : sideB H = true) (h0 : 0 ≤ s) (h1 : s ≤ 255) :
    Calls Tryd.prog 62 #[.pointer (some ⟨p, 0, none⟩), .int .i64 s] w (Gives (.agg #[.int .i64 (wtX H s), .int .i64 (wtY H s), .int .i64 1, .int .i64 (wtD H s)]) w) := by
  by_cases hx : s / (2 * H) % 2 = 0 <;> by_cases hk : s % 2 = 0
  · exact specWalkerEE w p W H A n c s hb hH h0 h1 hx hk
  · exact specWalkerEO w p W H A n c s hb hH h0 h1 hx (by omega)
  · exact specWalkerOE w p W H A n c s hb hH h0 h1 (by omega) hk
  · exact specWalkerOO w p W H A n c s hb hH h0 h1 (by omega) (by omega)
theorem implWalker (w : World) (W H : Int) (s : Int) (hH : sideB H = true) (h0 : 0 ≤ s) (h1 : s ≤ 255) :
    Calls Tryd.prog 125 #[.agg #[.int .i64 W, .int .i64 H], .int .i64 s] w (Gives (.agg #[.int .i64 (wtX H s), .int .i64 (wtY H s), .int .i64 1, .int .i64 (wtD H s)]) w) := by
  by_cases hx : (s / (2 * H) + s % (2 * H)) % 2 = 1
  · exact implWalker1 w W H s hH h0 h1 hx
  · exact implWalker0 w W H s hH h0 h1 hx

def wtC (W H : Int) (n : Nat) (f : Nat → Int) (s : Int) : Int := if validB W H n f then (if inB s 0 (4 * W * H - 1) then 0 else 2) else 1
def wtV (W H : Int) (n : Nat) (f : Nat → Int) (s v : Int) : Int := if wtC W H n f s = 0 then v else 0
theorem wt_bad {W H : Int} {n : Nat} {f : Nat → Int} {s : Int} (h : validB W H n f = false) : wtC W H n f s = 1 ∧ ∀ v, wtV W H n f s v = 0 := by
  have e : wtC W H n f s = 1 := by simp [wtC, h]
  exact ⟨e, fun v => by unfold wtV; rw [e]; rfl⟩
theorem wt_out {W H : Int} {n : Nat} {f : Nat → Int} {s : Int} (h : validB W H n f = true) (h2 : inB s 0 (4 * W * H - 1) = false) : wtC W H n f s = 2 ∧ ∀ v, wtV W H n f s v = 0 := by
  have e : wtC W H n f s = 2 := by simp [wtC, h, h2]
  exact ⟨e, fun v => by unfold wtV; rw [e]; rfl⟩
theorem wt_in {W H : Int} {n : Nat} {f : Nat → Int} {s : Int} (h : validB W H n f = true) (h2 : inB s 0 (4 * W * H - 1) = true) : wtC W H n f s = 0 ∧ ∀ v, wtV W H n f s v = v := by
  have e : wtC W H n f s = 0 := by simp [wtC, h, h2]
  exact ⟨e, fun v => by unfold wtV; rw [e]; rfl⟩
end Go.Proofs.YtfkodbpkfoecoaaDoor.Base
