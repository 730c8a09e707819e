/-
  Tracing: spec's trace of one walker.
-/
import Derived.Test.YtbpdjmjkjiddjaaDoorTrc
import Derived.Test.YtbpdjmjkjiddjaaDoorTrn
import Derived.Test.YtbpdjmjkjiddjaaDoorAll
import Derived.Deep.DeepCutAuto
import Derived.Test.YtbpdjmjkjiddjaaDoorWst
namespace Go.Proofs.YtbpdjmjkjiddjaaDoor.Base
open Go.RowKit
set_option linter.unusedVariables false
set_option linter.unusedSimpArgs false

/-- the points of j steps, and the segments -/
def ptl (W H : Int) (f : Nat → Int) (v : W4) : Nat → List Int
  | 0 => []
  | j + 1 => ptl W H f v j ++ [(stps W H f j v).1, (stps W H f j v).2.1]
def sgl (W H : Int) (f : Nat → Int) (v : W4) : Nat → List Int
  | 0 => []
  | j + 1 => sgl W H f v j ++ [sg H (stps W H f j v)]
theorem infoPoint : (Tryd.prog.info? 61).map (fun i => (i.zero, i.size, i.bytes)) = some (some (.agg #[.int .i64 0, .int .i64 0]), 2, 16) := by kernel_rfl
theorem owns_grown {w w1 : World} {base n s : Nat} {e : TypeId} {v : Value} {xs : List Value} {r : Option Nat} (h : w.ownsRow base e s v n xs) (hg : w.grownBy w1 r) (hne : v.ownBlock = none ∨ v.ownBlock ≠ r) : w1.ownsRow base e s v n xs :=
  h.kept hg (by rcases hne with h | h <;> simp [h])
/-- the two rows do not lie in one block -/
def ApartB (u v : Value) : Prop := ∀ g, u.ownBlock = some g → v.ownBlock = some g → False

def lenV : Value → Nat
  | .slice _ n _ => n
  | _ => 0
/-- the points and the segments of N steps, each in a row that the call has made -/
def TraceOut (W H : Int) (f : Nat → Int) (v : W4) (N : Nat) (w : World) (e : Ending) (w' : World) : Prop :=
  ∃ P c S d, e = .returned (.tuple #[.slice P N c, .slice S N d]) ∧ w'.ownsRow w.heap.size 61 2 (.slice P N c) N (ivs (ptl W H f v N)) ∧ w'.ownsRow w.heap.size 2 1 (.slice S N d) N (ivs (sgl W H f v N)) ∧ Below w.heap.size w w'
theorem owns_base {w : World} {base base' n s : Nat} {e : TypeId} {v : Value} {xs : List Value} (h : w.ownsRow base e s v n xs) (hb : base' ≤ base) : w.ownsRow base' e s v n xs := by
  refine ⟨h.1, ?_⟩
  rcases h.2 with h | ⟨g, cap, cur, rfl, h1, h2⟩
  · exact .inl h
  · exact .inr ⟨g, cap, cur, rfl, by omega, h2⟩
theorem owns_new0 {X : World} {e : TypeId} {s base p : Nat} (hp : X.heap.size = p) (hb : base ≤ p) : (X.alloc (.cells #[] e)).ownsRow base e s (.slice (some ⟨p, 0, none⟩) 0 0) 0 [] := by
  subst hp
  exact World.ownsRow_lit (size := s) _ #[] 0 hb (Nat.zero_le _) (by simp)
theorem At.newAt {X : World} {cs : Array Value} {T : TypeId} {p : Nat} (hp : X.heap.size = p) : At (X.alloc (.cells cs T)) p cs T := by
  subst hp
  exact At.new _ _ _
theorem alloc_below {B : Nat} {w X : World} (h : Below B w X) (hB : B ≤ X.heap.size) (o : Obj) : Below B w (X.alloc o) := h.alloc hB o
theorem ivs_two (a b : Int) : ∀ u ∈ ivs [a, b], u.oneCell' = true := fun u hu => by
  obtain ⟨x, -, rfl⟩ := List.mem_map.1 hu
  rfl
theorem ivs_1 (a : Int) : ∀ u ∈ ivs [a], u.oneCell' = true := fun u hu => by
  obtain ⟨x, -, rfl⟩ := List.mem_map.1 hu
  rfl
theorem ivs_app (a b : List Int) : ivs (a ++ b) = ivs a ++ ivs b := List.map_append
theorem owns_set {w : World} {base n s : Nat} {e : TypeId} {v : Value} {xs : List Value} (h : w.ownsRow base e s v n xs) {a : Addr} (hne : v.ownBlock ≠ some a.block) (u : Value) : (w.setCell a u).ownsRow base e s v n xs := by
  refine ⟨h.1, ?_⟩
  rcases h.2 with h | ⟨g, cap, cur, rfl, hb, hg, h4⟩
  · exact .inl h
  · exact .inr ⟨g, cap, cur, rfl, hb, (Below.heap_setCell w a u g (fun e => hne (by rw [e]; rfl))).trans hg, h4⟩
/-- what TraceRel says, of a walker v that is reached -/
structure TraceAt (vs : List Value) (B : Nat) (W0 : World) (j : Nat) (ps ss : List Value) (u6 u7 : Value) (b : Nat) (wr : World) : Prop where
  hB : B ≤ b
  box : At wr b vs.toArray 131
  pts : wr.ownsRow B 61 2 u6 j ps
  seg : wr.ownsRow B 2 1 u7 j ss
  apart : ApartB u6 u7
  n6 : u6.ownBlock ≠ some b
  n7 : u7.ownBlock ≠ some b
  below : Below B W0 wr
theorem TraceAt.b {vs : List Value} {B : Nat} {W0 : World} {j : Nat} {ps ss : List Value} {u6 u7 : Value} {b : Nat} {wr wa : World} (h : TraceAt vs B W0 j ps ss u6 u7 b wr) (hb : Below wr.heap.size wr wa) : TraceAt vs B W0 j ps ss u6 u7 b wa :=
  ⟨h.hB, h.box.below hb h.box.lt, owns_belowS h.pts hb, owns_belowS h.seg hb, h.apart, h.n6, h.n7, h.below.trans (hb.mono (by have := h.box.lt; have := h.hB; omega))⟩
theorem TraceAt.app6 {vs : List Value} {B : Nat} {W0 : World} {j k : Nat} {ps ps' ss : List Value} {u6 u7 : Value} {b : Nat} {wr wa w1 : World} {g cap H : Nat} (h : TraceAt vs B W0 j ps ss u6 u7 b wr) (hX : Below wr.heap.size wr wa)
    (hown : w1.ownsRow B 61 2 (.slice (some ⟨g, 0, none⟩) k cap) k ps') (hg : wa.grownBy w1 u6.ownBlock) (hat : u6.ownBlock = some g ∨ g = H) (hH : wa.heap.size = H) :
    w1.ownsRow B 2 1 u7 j ss ∧ ApartB (.slice (some ⟨g, 0, none⟩) k cap) u7 ∧ At w1 b vs.toArray 131 ∧ (Value.slice (some ⟨g, 0, none⟩) k cap).ownBlock ≠ some b ∧ Below B W0 w1 := by
  have ha := h.b hX
  have hlt := ha.box.lt
  have hb6 : ∀ b', u6.ownBlock = some b' → B ≤ b' := fun b' e => (h.pts.lt b' e).1
  refine ⟨owns_grown ha.seg hg ?_, fun g' e1 e2 => ?_, ha.box.grown hg (fun e => h.n6 e.symm), fun e => ?_, ha.below.grown hg (by have := h.hB; omega) hb6⟩
  · by_cases e : u7.ownBlock = none
    · exact .inl e
    · obtain ⟨g', hg'⟩ := Option.ne_none_iff_exists'.1 e
      exact .inr (fun e' => h.apart g' (e'.symm.trans hg') hg')
  · have e1' : g = g' := by simpa [Value.ownBlock] using e1
    subst e1'
    rcases hat with hat | hat
    · exact h.apart g hat e2
    · have := (ha.seg.lt g e2).2
      omega
  · have e1' : g = b := by simpa [Value.ownBlock] using e
    subst e1'
    rcases hat with hat | hat
    · exact h.n6 hat
    · omega
theorem TraceAt.app7 {vs : List Value} {B : Nat} {W0 : World} {j k i : Nat} {ps ss ss' : List Value} {u6 u7 : Value} {b : Nat} {wr wa w1 : World} {g cap H : Nat} (h5 : wr.ownsRow B 2 1 u7 j ss) (h6 : wr.ownsRow B 61 2 u6 i ps) (hap : ApartB u6 u7) (hbx : At wr b vs.toArray 131) (n7 : u7.ownBlock ≠ some b) (hbl : Below B W0 wr) (hBb : B ≤ b) (hX : Below wr.heap.size wr wa)
    (hown : w1.ownsRow B 2 1 (.slice (some ⟨g, 0, none⟩) k cap) k ss') (hg : wa.grownBy w1 u7.ownBlock) (hat : u7.ownBlock = some g ∨ g = H) (hH : wa.heap.size = H) :
    w1.ownsRow B 61 2 u6 i ps ∧ ApartB u6 (.slice (some ⟨g, 0, none⟩) k cap) ∧ At w1 b vs.toArray 131 ∧ Below B W0 w1 := by
  have hlt := hbx.lt
  have h6a := owns_belowS h6 hX
  have hb7 : ∀ b', u7.ownBlock = some b' → B ≤ b' := fun b' e => (h5.lt b' e).1
  refine ⟨owns_grown h6a hg ?_, fun g' e1 e2 => ?_, (hbx.below hX hlt).grown hg (fun e => n7 e.symm), (hbl.trans (hX.mono (by omega))).grown hg (by have := hX.size; omega) hb7⟩
  · by_cases e : u6.ownBlock = none
    · exact .inl e
    · obtain ⟨g', hg'⟩ := Option.ne_none_iff_exists'.1 e
      exact .inr (fun e' => hap g' hg' (e'.symm.trans hg'))
  · have e2' : g = g' := by simpa [Value.ownBlock] using e2
    subst e2'
    rcases hat with hat | hat
    · exact hap g e1 hat
    · have := (h6a.lt g e1).2
      omega
set_option maxRecDepth 100000 in
set_option maxHeartbeats 2000000 in
theorem spec_trace (w : World) (p : Nat) (W H : Int) (A : Option Addr) (n c : Nat) (f : Nat → Int) (x y dx dy : Int) (hb : Box w p W H A n c) (hr : Row .i64 w A n c f) (hw : okW W H n f (x, y, dx, dy) = true) (N : Nat) (hN : IsPer W H f (x, y, dx, dy) N) :
    Calls Tryd.prog 148 #[.pointer (some ⟨p, 0, none⟩), .agg #[.int .i64 x, .int .i64 y, .int .i64 dx, .int .i64 dy]] w (TraceOut W H f (x, y, dx, dy) N w) := by
  have HL := Lib.hid (show Below w.heap.size w (w.alloc (.cells #[.int .i64 x, .int .i64 y, .int .i64 dx, .int .i64 dy] 131)) from (Below.refl _ _).alloc (Nat.le_refl _) _)
  have HR := Lib.hid hr
  have HX := Lib.hid hb
  have HWK := Lib.hid hw
  have HN := Lib.hid hN
  clear hr hb hw hN
  obtain ⟨i0, hi, hz0, hz1, hz2⟩ := info_parts infoPoint
  obtain ⟨i1, hi', hz0', hz1', hz2'⟩ := info_parts infoI64
  go_enter Tryd.func148, Tryd.ntmps148
  go_wp2
  go_loopw [6, 7, 8] (fun u6 u7 u8 wr => ∃ j b, u8 = .pointer (some ⟨b, 0, none⟩) ∧ j ≤ N ∧ Hid (TraceAt (cs4 (stps W H f j (x, y, dx, dy))) (w.heap.size + 1) (w.alloc (.cells #[.int .i64 x, .int .i64 y, .int .i64 dx, .int .i64 dy] 131)) j (ivs (ptl W H f (x, y, dx, dy) j)) (ivs (sgl W H f (x, y, dx, dy) j)) u6 u7 b wr)) (fun u6 _ _ _ => 1200 - lenV u6)
  case atStart =>
    refine ⟨0, w.heap.size + 1 + 1 + 1, rfl, Nat.zero_le _, Lib.hid ⟨by omega, At.newAt (by simp), ?_, ?_, ?_, by simp [Value.ownBlock], by simp [Value.ownBlock], ?_⟩⟩
    · exact owns_belowS (owns_belowS (owns_new0 (by simp) (Nat.le_refl _)) ((Below.refl _ _).alloc (Nat.le_refl _) _)) ((Below.refl _ _).alloc (Nat.le_refl _) _)
    · exact owns_belowS (owns_new0 (by simp) (by omega)) ((Below.refl _ _).alloc (Nat.le_refl _) _)
    · intro g e1 e2
      simp [Value.ownBlock] at e1 e2
      omega
    · exact (((Below.refl _ _).alloc (by simp) _).alloc (by first | exact Nat.le_refl _ | (simp; done) | (simp; omega) | omega) _).alloc (by first | exact Nat.le_refl _ | (simp; done) | (simp; omega) | omega) _
  case round =>
    obtain ⟨j, b, rfl, hj, HT⟩ := hrel
    obtain ⟨A6, c6, rfl⟩ := owns_slice HT.out.pts
    obtain ⟨A7, c7, rfl⟩ := owns_slice HT.out.seg
    have hok := stps_ok HWK.out j
    obtain ⟨v, hv⟩ : ∃ v, v = stps W H f j (x, y, dx, dy) := ⟨_, rfl⟩
    rw [← hv] at hok HT
    obtain ⟨hW, hH, x1, x2, y1, y2, g1, g2⟩ := goW hok
    obtain ⟨h4, x3, -, y3, -⟩ := goNext hok
    obtain ⟨hn, hK⟩ := goAll hok
    have k0 : wr.cell? ⟨b, 0, none⟩ = some (.int .i64 v.1) := HT.out.box.cellv (i := 0) rfl
    have k1 : wr.cell? ⟨b, 1, none⟩ = some (.int .i64 v.2.1) := HT.out.box.cellv (i := 1) rfl
    have k2 : wr.cell? ⟨b, 2, none⟩ = some (.int .i64 v.2.2.1) := HT.out.box.cellv (i := 2) rfl
    have k3 : wr.cell? ⟨b, 3, none⟩ = some (.int .i64 v.2.2.2) := HT.out.box.cellv (i := 3) rfl
    have HQ : At wr w.heap.size #[.int .i64 x, .int .i64 y, .int .i64 dx, .int .i64 dy] 131 := (At.newAt rfl).below HT.out.below (by omega)
    have q0 : wr.cell? ⟨w.heap.size, 0, none⟩ = some (.int .i64 x) := HQ.cellv (i := 0) rfl
    have q1 : wr.cell? ⟨w.heap.size, 1, none⟩ = some (.int .i64 y) := HQ.cellv (i := 1) rfl
    have q2 : wr.cell? ⟨w.heap.size, 2, none⟩ = some (.int .i64 dx) := HQ.cellv (i := 2) rfl
    have q3 : wr.cell? ⟨w.heap.size, 3, none⟩ = some (.int .i64 dy) := HQ.cellv (i := 3) rfl
    have hzb := HT.out.box.lt
    have hzw := HQ.lt
    have HV := Lib.hid hv
    have HNn := Lib.hid hn
    clear HQ hv hn
    by_cases hlt : j < N
    · go_upto_region 4 with (fail)
      go_cut [19] (fun s19 wx => s19 = .bool true ∧ wr = wx)
      case first =>
        rcases Nat.eq_zero_or_pos j with h0 | h0
        · have j0 : ((j : Int) == 0) = true := by simp; omega
          go_wp2_with fail
          go_meet
          exact ⟨rfl, rfl⟩
        · have j0 : ((j : Int) == 0) = false := by simp; omega
          go_wp2_with fail
          all_goals first
            | (go_meet; exact ⟨rfl, rfl⟩)
            | (exfalso; exact HN.out.2.2.2 j (by omega) hlt (by rw [← HV.out]; simp [Prod.ext_iff, *]))
      case rest =>
        obtain ⟨rfl, rfl⟩ := hcut
        have hsz : (wr.alloc (.cells #[.int .i64 v.1, .int .i64 v.2.1] 61)).heap.size = wr.heap.size + 1 := by simp
        have hNb : N ≤ 1156 := HN.out.2.1
        have hBb := HT.out.hB
        have hXa := Lib.hid ((Below.refl wr.heap.size wr).alloc (Nat.le_refl _) (.cells #[.int .i64 v.1, .int .i64 v.2.1] 61))
        clear q0 q1 q2 q3
        have tok1 : True := trivial
        go_wp2_with (first
          | (at_builtin; have _t := tok1; refine wpList_append_lies _ (by rfl) _ _ _ (by rfl) (w.heap.size + 1) 61 i0 _ 2 16 Tryd.underlying190 hi hz0 hz1 hz2 rfl (by omega) _ j (ivs (ptl W H f (x, y, dx, dy) j)) (by rfl) (owns_belowS HT.out.pts hXa.out) ⟨wr.heap.size, 0, none⟩ 1 1 (ivs [v.1, v.2.1]) (by rfl) (by rfl) (World.news_of_block (cs := #[.int .i64 v.1, .int .i64 v.2.1]) (t := 61) (fr := (0, 0)) (heap_alloc_new wr _)) (ivs_two _ _) (by omega) (by unfold maxLen; omega) (by omega) (by simp; omega) (wr.heap.size + 1) (by simp) ?_; intro g6 cap6 w1 hown1 hgrow1 hat1 hlt1; obtain ⟨d1, d2, d3, d4, d5⟩ := HT.out.app6 hXa.out hown1 hgrow1 hat1 hsz; have k0 : w1.cell? ⟨b, 0, none⟩ = some (.int .i64 v.1) := d3.cellv (i := 0) rfl; have k1 : w1.cell? ⟨b, 1, none⟩ = some (.int .i64 v.2.1) := d3.cellv (i := 1) rfl; have k2 : w1.cell? ⟨b, 2, none⟩ = some (.int .i64 v.2.2.1) := d3.cellv (i := 2) rfl; have k3 : w1.cell? ⟨b, 3, none⟩ = some (.int .i64 v.2.2.2) := d3.cellv (i := 3) rfl; have hzb := d3.lt; have D1 := Lib.hid d1; have D2 := Lib.hid d2; have D3 := Lib.hid d3; have D4 := Lib.hid d4; have D5 := Lib.hid d5; have D6 := Lib.hid hown1; clear d1 d2 d3 d4 d5 hgrow1 hat1 hown1 tok1))
        have HB1 := Lib.hid (HL.out.trans (D5.out.mono (Nat.le_succ _)))
        have N7 := Lib.hid HT.out.n7
        clear k0 k1 k2 k3 hXa hsz hzw
        refine (specSeg w1 p W H A n c v.1 v.2.1 v.2.2.1 v.2.2.2 (HX.out.below HB1.out HX.out.1) hH x1 x2 y1 y2 x3 y3 g1 g2).mono ?_
        rintro e w2 ⟨rfl, b2⟩
        have hzw1 : w.heap.size + 1 ≤ w1.heap.size := by omega
        have P6 := Lib.hid (owns_belowS D6.out b2)
        have P7 := Lib.hid (owns_belowS D1.out b2)
        have P3 := Lib.hid (D3.out.below b2 hzb)
        have P5 := Lib.hid (D5.out.trans (b2.mono hzw1))
        have hzw2 : w.heap.size + 1 ≤ w2.heap.size := Nat.le_trans hzw1 b2.size
        clear b2 D6 D1 D3 D5 HB1 HT hzb hzw1 hlt1
        have hsz : (w2.alloc (.cells #[.int .i64 (segOf H v.1 v.2.1 v.2.2.1 v.2.2.2)] 2)).heap.size = w2.heap.size + 1 := by simp
        have hXa := Lib.hid ((Below.refl w2.heap.size w2).alloc (Nat.le_refl _) (.cells #[.int .i64 (segOf H v.1 v.2.1 v.2.2.1 v.2.2.2)] 2))
        have tok1 : True := trivial
        go_wp2_with (first
          | (at_builtin; have _t := tok1; refine wpList_append_lies _ (by rfl) _ _ _ (by rfl) (w.heap.size + 1) 2 i1 _ 1 8 Tryd.underlying29 hi' hz0' hz1' hz2' rfl (by omega) _ j (ivs (sgl W H f (x, y, dx, dy) j)) (by rfl) (owns_belowS P7.out hXa.out) ⟨w2.heap.size, 0, none⟩ 1 1 (ivs [segOf H v.1 v.2.1 v.2.2.1 v.2.2.2]) (by rfl) (by rfl) (World.news_of_block (cs := #[.int .i64 (segOf H v.1 v.2.1 v.2.2.1 v.2.2.2)]) (t := 2) (fr := (0, 0)) (heap_alloc_new w2 _)) (ivs_1 _) (by omega) (by unfold maxLen; omega) (by omega) (by simp; omega) (w2.heap.size + 1) (by simp) ?_; intro g7 cap7 w3 hown3 hgrow3 hat3 hlt3; obtain ⟨d1, d2, d3, d4⟩ := TraceAt.app7 P7.out P6.out D2.out P3.out N7.out P5.out hBb hXa.out hown3 hgrow3 hat3 hsz; have k0 : w3.cell? ⟨b, 0, none⟩ = some (.int .i64 v.1) := d3.cellv (i := 0) rfl; have k1 : w3.cell? ⟨b, 1, none⟩ = some (.int .i64 v.2.1) := d3.cellv (i := 1) rfl; have k2 : w3.cell? ⟨b, 2, none⟩ = some (.int .i64 v.2.2.1) := d3.cellv (i := 2) rfl; have k3 : w3.cell? ⟨b, 3, none⟩ = some (.int .i64 v.2.2.2) := d3.cellv (i := 3) rfl; have hzb := d3.lt; have E6 := Lib.hid d1; have E2 := Lib.hid d2; have E3 := Lib.hid d3; have E5 := Lib.hid d4; have E7 := Lib.hid hown3; clear d1 d2 d3 d4 hgrow3 hat3 hown3 tok1))
        have b4 := (Below.refl w3.heap.size w3).alloc (Nat.le_refl _) (.cells #[.int .i64 v.1, .int .i64 v.2.1, .int .i64 v.2.2.1, .int .i64 v.2.2.2] 131)
        have F6 := Lib.hid (owns_belowS E6.out b4)
        have F7 := Lib.hid (owns_belowS E7.out b4)
        have F5 := Lib.hid (E5.out.trans (b4.mono (show w.heap.size + 1 ≤ w3.heap.size by omega)))
        have FX := Lib.hid (At.new w3 #[.int .i64 v.1, .int .i64 v.2.1, .int .i64 v.2.2.1, .int .i64 v.2.2.2] 131)
        have hlt6 := (E6.out.lt g6 rfl).2
        have hz4 : (w3.alloc (.cells #[.int .i64 v.1, .int .i64 v.2.1, .int .i64 v.2.2.1, .int .i64 v.2.2.2] 131)).heap.size = w3.heap.size + 1 := by simp
        obtain ⟨q, hq⟩ : ∃ q, w3.heap.size = q := ⟨_, rfl⟩
        clear b4 E6 E7 E5 E3 k0 k1 k2 k3 P5 P3 P6 P7 D2 D4 hXa hsz
        rw [hq] at FX hz4 hlt3 hlt6 hzb ⊢
        clear hq
        generalize w3.alloc (.cells #[.int .i64 v.1, .int .i64 v.2.1, .int .i64 v.2.2.1, .int .i64 v.2.2.2] 131) = w4 at F6 F7 F5 FX hz4 ⊢
        have FB := Lib.hid (HL.out.trans (F5.out.mono (Nat.le_succ _)))
        refine (specStep w4 p W H A n c f v.1 v.2.1 v.2.2.1 v.2.2.2 (HX.out.below FB.out HX.out.1) (HR.out.below FB.out (Nat.le_refl _)) HNn.out hK hW hH x1 x2 y1 y2 g1 g2 h4).mono ?_
        rintro e w5 ⟨rfl, b5⟩
        have G6 := Lib.hid (owns_belowS F6.out b5)
        have G7 := Lib.hid (owns_belowS F7.out b5)
        have G5 := Lib.hid (F5.out.trans (b5.mono (by omega)))
        have GX := Lib.hid (FX.out.below b5 (by omega))
        clear b5 F6 F7 F5 FX FB hz4
        have k0 : w5.cell? ⟨q, 0, none⟩ = some (.int .i64 v.1) := GX.out.cellv (i := 0) rfl
        have k1 : w5.cell? ⟨q, 1, none⟩ = some (.int .i64 v.2.1) := GX.out.cellv (i := 1) rfl
        have k2 : w5.cell? ⟨q, 2, none⟩ = some (.int .i64 v.2.2.1) := GX.out.cellv (i := 2) rfl
        have k3 : w5.cell? ⟨q, 3, none⟩ = some (.int .i64 v.2.2.2) := GX.out.cellv (i := 3) rfl
        have f0 := GX.out.frozen 0
        have f1 := GX.out.frozen 1
        have f2 := GX.out.frozen 2
        have f3 := GX.out.frozen 3
        have hzq := GX.out.lt
        have ES := Lib.hid (show stps W H f (j + 1) (x, y, dx, dy) = stp W H f v from congrArg (stp W H f) HV.out.symm)
        have EP := Lib.hid (show ivs (ptl W H f (x, y, dx, dy) (j + 1)) = ivs (ptl W H f (x, y, dx, dy) j) ++ ivs [v.1, v.2.1] by rw [HV.out]; exact ivs_app _ _)
        have EG := Lib.hid (show ivs (sgl W H f (x, y, dx, dy) (j + 1)) = ivs (sgl W H f (x, y, dx, dy) j) ++ ivs [segOf H v.1 v.2.1 v.2.2.1 v.2.2.2] by rw [HV.out]; exact ivs_app _ _)
        have hqB : w.heap.size + 1 ≤ q := by omega
        have n6 : g6 ≠ q := by omega
        have n7 : g7 ≠ q := by omega
        go_wp2
        go_roundw
        case rel =>
          refine ⟨j + 1, q, rfl, hlt, Lib.hid ⟨hqB, ?_, ?_, ?_, E2.out, by simpa [Value.ownBlock] using n6, by simpa [Value.ownBlock] using n7, ?_⟩⟩
          · rw [ES.out]
            exact at_set4 GX.out rfl
          · rw [EP.out]
            exact owns_set (owns_set (owns_set (owns_set G6.out (a := ⟨q, 0, none⟩) (by simpa [Value.ownBlock] using n6) _) (a := ⟨q, 1, none⟩) (by simpa [Value.ownBlock] using n6) _) (a := ⟨q, 2, none⟩) (by simpa [Value.ownBlock] using n6) _) (a := ⟨q, 3, none⟩) (by simpa [Value.ownBlock] using n6) _
          · rw [EG.out]
            exact owns_set (owns_set (owns_set (owns_set G7.out (a := ⟨q, 0, none⟩) (by simpa [Value.ownBlock] using n7) _) (a := ⟨q, 1, none⟩) (by simpa [Value.ownBlock] using n7) _) (a := ⟨q, 2, none⟩) (by simpa [Value.ownBlock] using n7) _) (a := ⟨q, 3, none⟩) (by simpa [Value.ownBlock] using n7) _
          · exact (((G5.out.setCell (p := ⟨q, 0, none⟩) hqB _).setCell (p := ⟨q, 1, none⟩) hqB _).setCell (p := ⟨q, 2, none⟩) hqB _).setCell (p := ⟨q, 3, none⟩) hqB _
        case measure => simp [lenV]; omega
    · have ej : j = N := by omega
      have hjp : 0 < j := by have := HN.out.1; omega
      have j0 : ((j : Int) == 0) = false := by simp; omega
      have ev : v = (x, y, dx, dy) := by rw [HV.out, ej]; exact HN.out.2.2.1
      subst ev
      simp only at k0 k1 k2 k3
      go_wp2
      go_ret2
      rw [ej] at HT
      exact ⟨_, _, _, _, rfl, owns_base HT.out.pts (Nat.le_succ _), owns_base HT.out.seg (Nat.le_succ _), HL.out.trans (HT.out.below.mono (Nat.le_succ _))⟩
end Go.Proofs.YtbpdjmjkjiddjaaDoor.Base
