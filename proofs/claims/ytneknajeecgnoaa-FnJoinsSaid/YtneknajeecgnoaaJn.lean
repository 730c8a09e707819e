/-
  The laws' own helpers for joined elements: copies, how large they are, equality, marks.
-/
import Derived.Test.YtneknajeecgnoaaWls
import Derived.Test.YtneknajeecgnoaaHeap
import Derived.Test.YtneknajeecgnoaaShape
import Derived.Test.YtneknajeecgnoaaSame
namespace Go.Proofs.Ytneknajeecgnoaa.Base
open Go Go.RowKit
set_option linter.unusedVariables false
set_option linter.unusedSimpArgs false

theorem szJ_yes (w : World) (A B : Option Addr) (n c m d : Nat) (l : Int) (hl : 0 ≤ l) (hl' : l ≤ 1048576) (hn : (n : Int) + m ≤ l) :
    Calls Try.prog 22 #[.agg #[.slice A n c, .slice B m d], .int .i64 l] w (Gives (.int .i64 (l - n - m)) w) := by
  go_enter Try.func22, Try.ntmps22
  go_wp2
  go_ret
  exact ⟨rfl, by go_grown⟩
theorem szJ_no (w : World) (A B : Option Addr) (n c m d : Nat) (l : Int) (hl : 0 ≤ l) (hl' : l ≤ 1048576) (hn : n ≤ 9223372036854775807) (hm : m ≤ 9223372036854775807) (h : l < (n : Int) + m) :
    Calls Try.prog 22 #[.agg #[.slice A n c, .slice B m d], .int .i64 l] w (Gives (.int .i64 (-1)) w) := by
  by_cases h1 : (n : Int) ≤ l
  · go_enter Try.func22, Try.ntmps22
    go_wp2
    go_ret
    exact ⟨rfl, by go_grown⟩
  · go_enter Try.func22, Try.ntmps22
    go_wp2
    go_ret
    exact ⟨rfl, by go_grown⟩
/-- the two rows do not lie in one block -/
def ApartR (A : Option Addr) (n : Nat) (B : Option Addr) (m : Nat) : Prop := 0 < n → 0 < m → ∀ b, blk A = some b → blk B = some b → False
/-- joined elements that the call has made -/
def OwnJ (w : World) (base : Nat) (A : Option Addr) (n c : Nat) (f : Nat → Int) (B : Option Addr) (m d : Nat) (g : Nat → Int) : Prop :=
  OwnRow w base A n c f ∧ OwnRow w base B m d g ∧ ApartR A n B m
def JnMade (n : Nat) (f : Nat → Int) (m : Nat) (g : Nat → Int) (w : World) (e : Ending) (w' : World) : Prop :=
  ∃ A c B d, e = .returned (.agg #[.slice A n c, .slice B m d]) ∧ OwnJ w' w.heap.size A n c f B m d g ∧ Below w.heap.size w w'
def JnOut (n : Nat) (f : Nat → Int) (m : Nat) (g : Nat → Int) (code : Int) (w : World) (e : Ending) (w' : World) : Prop :=
  ∃ A c B d, e = .returned (.tuple #[.agg #[.slice A n c, .slice B m d], .int .i64 code]) ∧ OwnJ w' w.heap.size A n c f B m d g ∧ Below w.heap.size w w'
theorem OwnRow.setLow {w : World} {base : Nat} {A : Option Addr} {n c : Nat} {f : Nat → Int} (h : OwnRow w base A n c f) {p : Nat} (hp : p < base) (i : Nat) (v : Value) : OwnRow (w.setCell ⟨p, i, none⟩ v) base A n c f :=
  ⟨h.1, h.2.1, h.2.2.1, fun hn => by
    obtain ⟨b, o, e, h1, h2, hc⟩ := h.2.2.2 hn
    refine ⟨b, o, e, h1, by simpa [World.setCell] using h2, fun j hj => ⟨?_, ?_⟩⟩
    · rw [World.cell?_setCell_other _ _ _ _ (fun e => by injection e; omega)]
      exact (hc j hj).1
    · rw [World.frozen?_setCell]
      exact (hc j hj).2⟩
theorem OwnJ.below {w w' : World} {base K : Nat} {A : Option Addr} {n c : Nat} {f : Nat → Int} {B : Option Addr} {m d : Nat} {g : Nat → Int} (h : OwnJ w base A n c f B m d g) (hb : Below K w w') (hB : w.heap.size ≤ K) : OwnJ w' base A n c f B m d g :=
  ⟨h.1.below hb hB, h.2.1.below hb hB, h.2.2⟩
set_option maxHeartbeats 1000000 in
theorem toJ_any (w : World) (A : Option Addr) (n c : Nat) (f : Nat → Int) (B : Option Addr) (m d : Nat) (g : Nat → Int) (hr : Row .i64 w A n c f) (hr' : Row .i64 w B m d g) (hn : n ≤ 1048576) (hm : m ≤ 1048576) :
    Calls Try.prog 24 #[.agg #[.slice A n c, .slice B m d]] w (JnMade n f m g w) := by
  have HR := Lib.hid hr
  have HR' := Lib.hid hr'
  clear hr hr'
  have HL0 := Lib.hid ((((Below.refl w.heap.size w).alloc (Nat.le_refl _) (.cells #[.slice A n c, .slice B m d] 40)).alloc (by simp) (.cells #[.slice none 0 0, .slice none 0 0] 26)).alloc (by simp; omega) (.cells #[.slice none 0 0, .slice none 0 0] 26))
  have hp := (At.new w #[.slice A n c, .slice B m d] 40)
  have hq := (At.new (w.alloc (.cells #[.slice A n c, .slice B m d] 40)) #[.slice none 0 0, .slice none 0 0] 26)
  have ho := (At.new ((w.alloc (.cells #[.slice A n c, .slice B m d] 40)).alloc (.cells #[.slice none 0 0, .slice none 0 0] 26)) #[.slice none 0 0, .slice none 0 0] 26)
  have HP := Lib.hid (hp.below (((Below.refl _ _).alloc (Nat.le_refl _) (.cells #[.slice none 0 0, .slice none 0 0] 26)).alloc (by simp) (.cells #[.slice none 0 0, .slice none 0 0] 26)) (by simp))
  have hq' := hq.below ((Below.refl _ _).alloc (Nat.le_refl _) (.cells #[.slice none 0 0, .slice none 0 0] 26)) (by simp)
  simp only [World.size_alloc] at hq' ho
  have HQ := Lib.hid hq'
  have HO := Lib.hid ho
  clear hp hq ho hq'
  go_enter Try.func24, Try.ntmps24
  go_wp2_with fail
  refine (toInts_any _ A n c f (HR.out.below HL0.out (Nat.le_refl _)) hn).mono ?_
  rintro e w1 ⟨b, rfl, hb, hrow, b1⟩
  have HL1 := Lib.hid (HL0.out.trans (b1.mono HL0.out.size))
  have HP1 := Lib.hid (HP.out.below b1 HP.out.lt)
  have HQ1 := Lib.hid (HQ.out.below b1 HQ.out.lt)
  have HO1 := Lib.hid (HO.out.below b1 HO.out.lt)
  have HA1 := Lib.hid (ownRow_of (base := w.heap.size + 3) hrow (by unfold maxLen; omega) HR.out.2.2.1 (by simp at hb; omega))
  have hbl := hrow.lt
  have hz1 := b1.size
  simp at hz1 hb
  clear hrow b1 HP HQ HO HL0
  have p0 := HP1.out.cellv (i := 0) rfl
  have p1 := HP1.out.cellv (i := 1) rfl
  have q0 := HQ1.out.cellv (i := 0) rfl
  have q1 := HQ1.out.cellv (i := 1) rfl
  have o0 := HO1.out.cellv (i := 0) rfl
  have o1 := HO1.out.cellv (i := 1) rfl
  have fo0 := HO1.out.frozen 0
  have fo1 := HO1.out.frozen 1
  have fq0 := HQ1.out.frozen 0
  have fq1 := HQ1.out.frozen 1
  go_wp2_with fail
  clear p0 p1 q0 q1 o0 o1 fo0 fo1 fq0 fq1
  have HL2 := Lib.hid (HL1.out.setCell (p := ⟨w.heap.size + 1 + 1, 0, none⟩) (by simp; omega) (.slice (some ⟨b, 0, none⟩) n n))
  refine (toInts_any _ B m d g (HR'.out.below HL2.out (Nat.le_refl _)) hm).mono ?_
  rintro e w2 ⟨b', rfl, hb', hrow', b2⟩
  have HL3 := Lib.hid (HL2.out.trans (b2.mono HL2.out.size))
  have HP3 := Lib.hid ((HP1.out.setOther (a := ⟨w.heap.size + 1 + 1, 0, none⟩) (by simp; omega) (.slice (some ⟨b, 0, none⟩) n n)).below b2 (by have := HP1.out.lt; simp [World.setCell]; omega))
  have HQ3 := Lib.hid ((HQ1.out.setOther (a := ⟨w.heap.size + 1 + 1, 0, none⟩) (by simp) (.slice (some ⟨b, 0, none⟩) n n)).below b2 (by have := HQ1.out.lt; simp [World.setCell]; omega))
  have HO3 := Lib.hid ((HO1.out.set 0 (.slice (some ⟨b, 0, none⟩) n n)).below b2 (by have := HO1.out.lt; simp [World.setCell]; omega))
  have HA3 := Lib.hid ((HA1.out.setLow (p := w.heap.size + 1 + 1) (by omega) 0 (.slice (some ⟨b, 0, none⟩) n n)).below b2 (Nat.le_refl _))
  have hzs : (w1.setCell ⟨w.heap.size + 1 + 1, 0, none⟩ (.slice (some ⟨b, 0, none⟩) n n)).heap.size = w1.heap.size := by simp [World.setCell]
  rw [hzs] at hb'
  have HB3 := Lib.hid (ownRow_of (base := w.heap.size + 3) hrow' (by unfold maxLen; omega) HR'.out.2.2.1 (by omega))
  have hz2 := b2.size
  rw [hzs] at hz2
  clear hrow' b2 HP1 HQ1 HO1 HL1 HL2 HA1 hzs
  have p0 := HP3.out.cellv (i := 0) rfl
  have p1 := HP3.out.cellv (i := 1) rfl
  have q0 := HQ3.out.cellv (i := 0) rfl
  have q1 := HQ3.out.cellv (i := 1) rfl
  have o0 := HO3.out.cellv (i := 0) rfl
  have o1 := HO3.out.cellv (i := 1) rfl
  have fo0 := HO3.out.frozen 0
  have fo1 := HO3.out.frozen 1
  have fq0 := HQ3.out.frozen 0
  have fq1 := HQ3.out.frozen 1
  go_wp2
  refine bodyPost_ret (v := .agg #[.slice (some ⟨b, 0, none⟩) n n, .slice (some ⟨b', 0, none⟩) m m]) (by simp [results, Try.results24, go_sem, q0, q1]) rfl ⟨some ⟨b, 0, none⟩, n, some ⟨b', 0, none⟩, m, rfl, ⟨?_, ?_, ?_⟩, ?_⟩
  · exact (((HA3.out.setLow (by omega) _ _).setLow (by omega) _ _).setLow (by omega) _ _).mono (by omega)
  · exact (((HB3.out.setLow (by omega) _ _).setLow (by omega) _ _).setLow (by omega) _ _).mono (by omega)
  · intro h1 h2 x hx hy
    simp [blk] at hx hy
    omega
  · exact ((HL3.out.setCell (by simp; omega) _).setCell (by simp) _).setCell (by simp) _
theorem eqJ_same (w : World) (A A' B B' : Option Addr) (n c c' m d d' : Nat) (f g : Nat → Int) (hr : Row .i64 w A n c f) (hr' : Row .i64 w A' n c' f) (hs : Row .i64 w B m d g) (hs' : Row .i64 w B' m d' g) :
    Calls Try.prog 25 #[.agg #[.slice A n c, .slice B m d], .agg #[.slice A' n c', .slice B' m d']] w (Gives (.bool true) w) := by
  have HR := Lib.hid hr
  have HR' := Lib.hid hr'
  have HS := Lib.hid hs
  have HS' := Lib.hid hs'
  have HL := Lib.hid (((Below.refl w.heap.size w).alloc (Nat.le_refl _) (.cells #[.slice A n c, .slice B m d] 26)).alloc (by simp) (.cells #[.slice A' n c', .slice B' m d'] 26))
  clear hr hr' hs hs'
  go_enter Try.func25, Try.ntmps25
  go_wp2_with fail
  refine (eqInts_same _ A A' n c c' f (HR.out.below (by go_grown) (Nat.le_refl _)) (HR'.out.below (by go_grown) (Nat.le_refl _))).mono ?_
  rintro e w1 ⟨k, rfl, rfl⟩
  go_wp2_with fail
  refine (eqInts_same _ B B' m d d' g (HS.out.below (below_drewN HL.out k) (Nat.le_refl _)) (HS'.out.below (below_drewN HL.out k) (Nat.le_refl _))).mono ?_
  rintro e w1 ⟨k', rfl, rfl⟩
  go_wp2
  go_ret
  exact ⟨rfl, by first | exact below_drewN HL.out (k + k') | exact below_drewN (below_drewN HL.out k) k'⟩
/-- no other block has changed -/
def KeepsJ (w w' : World) (A : Option Addr) (n : Nat) (B : Option Addr) (m : Nat) : Prop :=
  w.heap.size ≤ w'.heap.size ∧ ∀ p, p < w.heap.size → (0 < n → blk A = some p → False) → (0 < m → blk B = some p → False) → w'.heap[p]? = w.heap[p]?
theorem Cel.kept {w w' : World} {A B : Option Addr} {n m p : Nat} {cs : List Value} (h : Cel w p cs) (k : KeepsJ w w' A n B m) (h1 : 0 < n → blk A = some p → False) (h2 : 0 < m → blk B = some p → False) : Cel w' p cs :=
  ⟨Nat.lt_of_lt_of_le h.1 k.1, fun i v hv => (World.cell?_of_block (a := ⟨p, i, none⟩) (k.2 p h.1 h1 h2)).trans (h.2 i v hv)⟩
theorem Row.kept {w w' : World} {A B C : Option Addr} {n m q c : Nat} {f : Nat → Int} (h : Row .i64 w C q c f) (k : KeepsJ w w' A n B m) (h1 : ∀ b, 0 < q → blk C = some b → 0 < n → blk A = some b → False) (h2 : ∀ b, 0 < q → blk C = some b → 0 < m → blk B = some b → False) : Row .i64 w' C q c f :=
  ⟨h.1, h.2.1, h.2.2.1, fun hn => by
    obtain ⟨b, o, e, hb, hc⟩ := h.2.2.2 hn
    have eb : blk C = some b := by rw [e]; rfl
    exact ⟨b, o, e, Nat.lt_of_lt_of_le hb k.1, fun i hi => (World.cell?_of_block (a := ⟨b, o + i, none⟩) (k.2 b hb (h1 b hn eb) (h2 b hn eb))).trans (hc i hi)⟩⟩
/-- joined elements whose numbers are counted -/
def MarkedJ (base : Nat) (A : Option Addr) (n c : Nat) (B : Option Addr) (m d : Nat) (k : Int) (w : World) (e : Ending) (w' : World) : Prop :=
  e = .returned (.int .i64 (k + n + m)) ∧ OwnJ w' base A n c (fun i => k + i) B m d (fun i => k + n + i) ∧ Below base w w' ∧ KeepsJ w w' A n B m
theorem Marked.belowB {B base : Nat} {w w' : World} {A : Option Addr} {n c : Nat} {f : Nat → Int} {r : Option Nat} (g : w.grownBy w' r) (h : ∀ b, r = some b → 0 < n ∧ blk A = some b) (ho : OwnRow w base A n c f) (hB : B ≤ base) (hs : base ≤ w.heap.size) : Below B w w' :=
  markedS_below g h (ownS_one.2 ho) hB hs
theorem markJ_any (w : World) (base : Nat) (A : Option Addr) (n c : Nat) (f : Nat → Int) (B : Option Addr) (m d : Nat) (g : Nat → Int) (k : Int) (ho : OwnJ w base A n c f B m d g) (hz : base ≤ w.heap.size) (k0 : 0 ≤ k) (k1 : k + n + m ≤ 9223372036854775807) :
    Calls Try.prog 26 #[.agg #[.slice A n c, .slice B m d], .int .i64 k] w (MarkedJ base A n c B m d k w) := by
  obtain ⟨hr, hs, ha⟩ := ho
  have HR := Lib.hid hr
  have HS := Lib.hid hs
  have HA := Lib.hid ha
  clear hr hs ha
  have bN := (Below.refl w.heap.size w).alloc (Nat.le_refl _) (.cells #[.slice A n c, .slice B m d] 26)
  have HX := Lib.hid (Cel.new w [.slice A n c, .slice B m d] 26)
  have HB := Lib.hid (bN.mono hz)
  have HN := Lib.hid bN
  have HR1 := Lib.hid (HR.out.below bN (Nat.le_refl _))
  have HS1 := Lib.hid (HS.out.below bN (Nat.le_refl _))
  clear bN
  go_enter Try.func26, Try.ntmps26
  go_wp2_with fail
  refine (mark_any _ base A n c f k HR1.out k0 (by omega)).mono ?_
  rintro e w1 ⟨rfl, hr1, r, hg1, hrr⟩
  have HS2 := Lib.hid (HS1.out.grownR hg1 (fun b hm hb e => by obtain ⟨hn, hA⟩ := hrr _ e; exact HA.out hn hm b hA hb))
  have HX2 := Lib.hid (HX.out.grownR hg1 (fun e => by obtain ⟨hn, hA⟩ := hrr _ e; have := (HR.out.base_lt hn _ hA).2; omega))
  have HB2 := Lib.hid (HB.out.trans (Marked.belowB hg1 hrr HR1.out (Nat.le_refl _) (by simp; omega)))
  have HR2 := Lib.hid hr1
  have hz2 := hg1.size
  have HG1 := Lib.hid hg1
  have HRR1 := Lib.hid hrr
  simp at hz2
  clear hr1 hg1 hrr HR1 HS1 HX
  have kz := HX2.out.1
  have k1' := HX2.out.2 1 _ rfl
  go_wp2_with fail
  clear k1' kz
  refine (mark_any _ base B m d g (k + n) HS2.out (by omega) (by omega)).mono ?_
  rintro e w2 ⟨rfl, hs1, r, hg2, hrr⟩
  have HR3 := Lib.hid (HR2.out.grownR hg2 (fun b hn hb e => by obtain ⟨hm, hB⟩ := hrr _ e; exact HA.out hn hm b hb hB))
  have HB3 := Lib.hid (HB2.out.trans (Marked.belowB hg2 hrr HS2.out (Nat.le_refl _) (by omega)))
  have HS3 := Lib.hid hs1
  have HG2 := Lib.hid hg2
  have HRR2 := Lib.hid hrr
  have hz3 := hg2.size
  clear hs1 hg2 hrr
  go_wp2
  go_ret
  refine ⟨rfl, ⟨HR3.out, HS3.out, HA.out⟩, HB3.out, by omega, fun p hp h1 h2 => ?_⟩
  have e1 := HN.out.block p hp
  have e2 := HG1.out.block p (by simp; omega) (fun e => by obtain ⟨hn, hA⟩ := HRR1.out _ e.symm; exact h1 hn hA)
  have e3 := HG2.out.block p (by omega) (fun e => by obtain ⟨hn, hA⟩ := HRR2.out _ e.symm; exact h2 hn hA)
  exact e3.trans (e2.trans e1)
theorem heldJ_any (w : World) (A : Option Addr) (n c : Nat) (B : Option Addr) (m d : Nat) (k : Int) (hr : Row .i64 w A n c (fun i => k + i)) (hs : Row .i64 w B m d (fun i => k + n + i)) (k0 : 0 ≤ k) (k1 : k + n + m ≤ 9223372036854775807) :
    Calls Try.prog 27 #[.agg #[.slice A n c, .slice B m d], .int .i64 k] w (Gives (.int .i64 (k + n + m)) w) := by
  have HR := Lib.hid hr
  have HS := Lib.hid hs
  clear hr hs
  go_enter Try.func27, Try.ntmps27
  go_wp2_with fail
  refine (held_any _ A n c k (HR.out.below ((Below.refl _ _).alloc (Nat.le_refl _) _) (Nat.le_refl _)) k0 (by omega)).mono ?_
  rintro e w1 ⟨rfl, rfl⟩
  go_wp2_with fail
  refine (held_any _ B m d (k + n) (HS.out.below ((Below.refl _ _).alloc (Nat.le_refl _) _) (Nat.le_refl _)) (by omega) (by omega)).mono ?_
  rintro e w1 ⟨rfl, rfl⟩
  go_wp2
  go_ret
  exact ⟨rfl, by go_grown⟩
end Go.Proofs.Ytneknajeecgnoaa.Base
