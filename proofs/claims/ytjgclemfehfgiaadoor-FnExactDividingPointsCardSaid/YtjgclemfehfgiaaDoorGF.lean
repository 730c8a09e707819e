/-
  Several texts in one.
-/
import Derived.Test.YtjgclemfehfgiaaDoorGE
import Derived.Test.YtjgclemfehfgiaaDoorWls
import Derived.Test.YtjgclemfehfgiaaDoorTab
import Derived.Test.YtjgclemfehfgiaaDoorCta
import Derived.Test.YtjgclemfehfgiaaDoorGA
import Derived.Deep.AppendLies
namespace Go.Proofs.YtjgclemfehfgiaaDoor.Base
open Go Go.RowKit
set_option linter.unusedVariables false
set_option linter.unusedSimpArgs false

theorem Kx.below {F E : Nat} {lv lv' : Value} {w w' : World} (h : Kx [F, E] lv lv' w w') {B : Nat} (hF : B ≤ F) (hE : B ≤ E) (hl : ∀ q, lv.ownBlock = some q → B ≤ q) (hB : B ≤ w.heap.size) : Below B w w' :=
  ⟨h.os, h.tape, h.output, h.size, fun b hb => h.block b (by omega) (by simp; omega) (fun e => by have := hl b e; omega)⟩
theorem TrX.kx_below {w w' : World} {W H : Int} {f : Nat → Int} {n F E M L T tb : Nat} {lv lv' : Value} (h : TrX w W H f n F E M L T tb lv) (k : Kx [F, E] lv lv' w w') : Below L w w' :=
  k.below (by have := h.fe; omega) (by have := h.fe; omega) (fun q hq => by have := (h.lvs hq).1; omega) (by have := h.fe; have := h.lt; omega)
theorem nrA3 (r : Nat → Int) : nrA r 3 = #[.int .i64 (r 0), .int .i64 (r 1), .int .i64 (r 2)] := rfl
theorem nr3_at (r : Nat → Int) {k : Nat} (hk : k < 3) : (#[.int .i64 (r 0), .int .i64 (r 1), .int .i64 (r 2)] : Array Value)[k]? = some (.int .i64 (r k)) := by
  have h : k = 0 ∨ k = 1 ∨ k = 2 := by omega
  rcases h with rfl | rfl | rfl <;> rfl
section
variable (w : World) (W H : Int) (A : Option Addr) (n c : Nat) (f : Nat → Int) (x y z : Int)
/-- the two calls in one: the numbers with each kind of break at inner point k -/
def OutO (r : Nat → Int) (w : World) (e : Ending) (w' : World) : Prop := e = .returned (.agg (nrA r 3)) ∧ Below w.heap.size w w'
set_option maxHeartbeats 4000000 in
theorem impl_effectOf (hr : Row .i64 w A n c f) (hD : Cel w 1 [.int .i64 (-1), .int .i64 (-1), .int .i64 1, .int .i64 (-1), .int .i64 (-1), .int .i64 1, .int .i64 1, .int .i64 1]) (hJ : Cel w 0 [.int .i64 0, .int .i64 3, .int .i64 1, .int .i64 2, .int .i64 0, .int .i64 2, .int .i64 1, .int .i64 3, .int .i64 0, .int .i64 1, .int .i64 2, .int .i64 3]) : Calls Tryd.prog 15 #[.agg #[.int .i64 W, .int .i64 H, .slice A n c], .agg #[.int .i64 x, .int .i64 y], .int .i64 z] w (Gives (.tuple #[.int .i64 (efV W H n f x y z), .int .i64 (setC W H n f x y z)]) w) := by
  have hbel : Below w.heap.size w ((w.alloc (.cells #[.int .i64 W, .int .i64 H, .slice A n c] 30)).alloc (.cells #[.int .i64 x, .int .i64 y] 32)) := ((Below.refl _ _).alloc (Nat.le_refl _) _).alloc (by simp) _
  have hX := two_boxes w 30 32 W H A n c x y
  have hd := Dot.new (w.alloc (.cells #[.int .i64 W, .int .i64 H, .slice A n c] 30)) 32 x y
  simp only [World.size_alloc] at hd
  have HR := Lib.hid (hr.below hbel (Nat.le_refl _))
  have HL := Lib.hid hbel
  have HX := Lib.hid hX
  have HD := Lib.hid hd
  have HGD := Lib.hid (hD.below hbel hD.1)
  have HGJ := Lib.hid (hJ.below hbel hJ.1)
  have HGZ := Lib.hid (And.intro hD.1 hJ.1)
  clear hr hbel hX hd hD hJ
  obtain ⟨xz, x0, x1, x2⟩ := id HX.out
  obtain ⟨dz, d0, d1⟩ := id HD.out
  by_cases hc : setC W H n f x y z = 0
  · obtain ⟨hv, hh, he, hk, -⟩ := setC_zero hc
    obtain ⟨hW, hH, hn, hK⟩ := validB_yes hv
    obtain ⟨p1, p2, p3, p4⟩ := inside hW hH hh he
    obtain ⟨l1, l2⟩ := num_lt hW hH hh he
    obtain ⟨k, hkk⟩ : ∃ k : Nat, numN W x y = (k : Int) := ⟨(numN W x y).toNat, by omega⟩
    have hkn : k < n := by omega
    have hn2 : n ≤ 112 := by have := (inner_bd hW hH).2; omega
    have hz := in_yes hk
    obtain ⟨zk, rfl⟩ : ∃ zk : Nat, z = (zk : Int) := ⟨z.toNat, by omega⟩
    obtain ⟨fk, hfk⟩ : ∃ fk : Nat, f k = (fk : Int) := ⟨(f k).toNat, by have := kinds_iff.1 hK k hkn; omega⟩
    have hfb : fk < 3 := by have := kinds_iff.1 hK k hkn; omega
    have hzb : zk < 3 := by omega
    obtain ⟨M, hM⟩ : ∃ M : Nat, (M : Int) = 4 * W * H := ⟨(4 * W * H).toNat, by have := (segs_bd hW hH).1; omega⟩
    have hev : efV W H n f x y (zk : Int) = outK W H f k zk - outK W H f k fk := by
      unfold efV outK
      rw [if_pos hc, hkk, Int.toNat_natCast, ← hfk, put_same]
    have HC := Lib.hid (fun (w' : World) (hr : Row .i64 w' A n c f) => implSet_ok w' W H A n c f x y (zk : Int) hr (by omega) hc)
    have HN := Lib.hid (fun (w' : World) => numberOf_any w' W H x y hW p1 p2 p3 p4)
    have HT := Lib.hid (fun (w' : World) (hr : Row .i64 w' A n c f) (hD : Cel w' 1 [.int .i64 (-1), .int .i64 (-1), .int .i64 1, .int .i64 (-1), .int .i64 (-1), .int .i64 1, .int .i64 1, .int .i64 1]) (hJ : Cel w' 0 [.int .i64 0, .int .i64 3, .int .i64 1, .int .i64 2, .int .i64 0, .int .i64 2, .int .i64 1, .int .i64 3, .int .i64 0, .int .i64 1, .int .i64 2, .int .i64 3]) => impl_trialOf w' W H A n c f hr hD hJ hv)
    have HO := Lib.hid (fun (w' : World) (F E L T tb : Nat) (lv : Value) (ht : TrX w' W H f n F E M L T tb lv) (hD : Cel w' 1 [.int .i64 (-1), .int .i64 (-1), .int .i64 1, .int .i64 (-1), .int .i64 (-1), .int .i64 1, .int .i64 1, .int .i64 1]) (hJ : Cel w' 0 [.int .i64 0, .int .i64 3, .int .i64 1, .int .i64 2, .int .i64 0, .int .i64 2, .int .i64 1, .int .i64 3, .int .i64 0, .int .i64 1, .int .i64 2, .int .i64 3]) (h1 : 1 ≤ L) (h2 : 0 ≤ L) => trx_outcomes w' W H f n F E M L T tb k lv hv hM ht hD hJ hkn h1 h2)
    have HM := Lib.hid (show (4 * W * H).toNat = M by omega)
    rw [hkk] at HN
    rw [hev, hc]
    have hgb : ∀ kd, kd < 3 → 0 ≤ outK W H f k kd ∧ outK W H f k kd ≤ 256 := fun kd h => by
      have := cnN_le (put_valid hv k (z := (kd : Int)) (by omega) (by omega))
      unfold outK
      omega
    obtain ⟨r, hr⟩ : ∃ r, outK W H f k = r := ⟨_, rfl⟩
    rw [hr] at HO hgb ⊢
    have g1 := hgb zk hzb
    have g2 := hgb fk hfb
    have HFK := Lib.hid hfk
    clear hv hh he hk hev hn hK l1 l2 hkk hc p1 p2 p3 p4 hW hH hgb hr hfk hM hz
    go_enter Tryd.func15, Tryd.ntmps15
    go_wp2_with fail
    clear dz d0 d1 xz x0 x1 x2
    refine (HC.out _ HR.out).mono ?_
    rintro e w1 ⟨A', c', rfl, -, b1⟩
    have bN := (Below.refl w1.heap.size w1).alloc (Nat.le_refl _) (.cells #[.int .i64 W, .int .i64 H, .slice A' n c'] 30)
    have b2 := b1.trans (bN.mono b1.size)
    have HX2 := Lib.hid (HX.out.below b2 HX.out.1)
    have HR2 := Lib.hid (HR.out.below b2 (Nat.le_refl _))
    have HD2 := Lib.hid (HD.out.below b2 HD.out.1)
    have HGD2 := Lib.hid (HGD.out.below b2 HGD.out.1)
    have HGJ2 := Lib.hid (HGJ.out.below b2 HGJ.out.1)
    have HL2 := Lib.hid (HL.out.trans (b2.mono HL.out.size))
    clear b1 b2 bN HX HR HD HGD HGJ HL HC
    go_wp2
    generalize w1.alloc (.cells #[.int .i64 W, .int .i64 H, .slice A' n c'] 30) = w2 at *
    obtain ⟨xz, x0, x1, x2⟩ := id HX2.out
    obtain ⟨dz, d0, d1⟩ := id HD2.out
    have OL := Lib.hid (Old.mk_ (Below.refl w2.heap.size w2).drew)
    go_region_held3 (fun w' => (∀ b o, b < (w2).heap.size → w'.cell? ⟨b, o, none⟩ = (w2).cell? ⟨b, o, none⟩) ∧ Below (w2).heap.size (w2) w') (first | assumption | exact OL.out | exact Old.trans (by assumption) (by assumption))
      (first | (go_at_call 61; refine (sizeOf_any _ W H A n c).mono ?_; rintro e wa ⟨rfl, ba⟩) | (go_at_call 62; refine (HN.out _).mono ?_; rintro e wb ⟨rfl, bb⟩))
    have b3 : Below w2.heap.size w2 wb := ((Below.refl _ w2).drew).trans (ba.trans (bb.mono ba.size))
    have HX3 := Lib.hid (HX2.out.below b3 HX2.out.1)
    have HR3 := Lib.hid (HR2.out.below b3 (Nat.le_refl _))
    have HGD3 := Lib.hid (HGD2.out.below b3 HGD2.out.1)
    have HGJ3 := Lib.hid (HGJ2.out.below b3 HGJ2.out.1)
    have HL3 := Lib.hid (HL2.out.trans (b3.mono HL2.out.size))
    clear ba bb b3 HX2 HR2 HD2 HGD2 HGJ2 HL2 OL HN xz x0 x1 x2 dz d0 d1
    obtain ⟨xz, x0, x1, x2⟩ := id HX3.out
    go_wp2_with fail
    clear xz x0 x1 x2
    refine (HT.out _ HR3.out HGD3.out HGJ3.out).mono ?_
    rintro e w4 ⟨F, E, tb, lv, rfl, ht, b4⟩
    rw [HM.out] at ht
    have HT4 := Lib.hid ht
    have HB4 := Lib.hid b4
    clear ht b4
    go_wp2_with fail
    refine (HO.out _ F E _ _ tb lv HT4.out (HGD3.out.below HB4.out HGD3.out.1) (HGJ3.out.below HB4.out HGJ3.out.1) (Nat.le_of_lt HGD3.out.1) (Nat.le_of_lt HGJ3.out.1)).mono ?_
    rintro e w5 ⟨rfl, lv', ht', hkx⟩
    have b5 := HB4.out.trans (HT4.out.kx_below hkx)
    rw [nrA3]
    have hA := At.new w5 #[.int .i64 (r 0), .int .i64 (r 1), .int .i64 (r 2)] 85
    have bN := (Below.refl w5.heap.size w5).alloc (Nat.le_refl _) (.cells #[.int .i64 (r 0), .int .i64 (r 1), .int .i64 (r 2)] 85)
    have b6 := b5.trans (bN.mono b5.size)
    have cA := hA.cellv (i := zk) (nr3_at r hzb)
    have cB := hA.cellv (i := fk) (nr3_at r hfb)
    have cz := hA.lt
    obtain ⟨xz, x0, x1, x2⟩ := HX3.out.below b6 HX3.out.1
    obtain ⟨hnc, hcm, -, hcell⟩ := HR3.out.below b6 (Nat.le_refl _)
    have HL6 := Lib.hid (HL3.out.trans (b6.mono HL3.out.size))
    obtain ⟨b, o, rfl, hbl, hcc⟩ := hcell (by omega)
    have hck := hcc k hkn
    rw [HFK.out] at hck
    have e1 : (k : Int) < (n : Int) := by omega
    have e2 : (0 : Int) ≤ (k : Int) := by omega
    have e3 : (zk : Int) < 3 := by omega
    have e4 : (0 : Int) ≤ (zk : Int) := by omega
    have e5 : (fk : Int) < 3 := by omega
    have e6 : (0 : Int) ≤ (fk : Int) := by omega
    unfold maxLen at hcm
    clear hcc hcell hA bN b5 b6 hkx ht' HX3 HR3 HGD3 HGJ3 HL3 HT4 HB4 HT HO hkn hzb hfb
    go_wp2
    generalize w5.alloc (.cells #[.int .i64 (r 0), .int .i64 (r 1), .int .i64 (r 2)] 85) = w6 at *
    generalize w5.heap.size = bs at *
    go_quiet (fail)
    go_wp2
    go_ret2
    exact ⟨rfl, below_drewN HL6.out _⟩
  · have hev : efV W H n f x y z = 0 := by unfold efV; rw [if_neg hc]
    rw [hev]
    have HC := Lib.hid (fun (w' : World) (hr : Row .i64 w' A n c f) => implSet_bad w' W H A n c f x y z hr hc)
    obtain ⟨q, hq⟩ : ∃ q, setC W H n f x y z = q := ⟨_, rfl⟩
    rw [hq] at HC hc ⊢
    clear hq hev
    go_enter Tryd.func15, Tryd.ntmps15
    go_wp2_with fail
    clear dz d0 d1 xz x0 x1 x2
    refine (HC.out _ HR.out).mono ?_
    rintro e w1 ⟨A', c', rfl, -, b1⟩
    have HL1 := Lib.hid (HL.out.trans (b1.mono HL.out.size))
    have HL2 := Lib.hid (HL1.out.trans (((Below.refl w1.heap.size w1).alloc (Nat.le_refl _) (.cells #[.int .i64 0, .int .i64 0, .slice A' 0 c'] 30)).mono HL1.out.size))
    clear b1
    go_wp2
    go_ret2
    exact ⟨rfl, HL2.out⟩
end
end Go.Proofs.YtjgclemfehfgiaaDoor.Base
namespace Go.Proofs.YtjgclemfehfgiaaDoor.Base
open Go Go.RowKit Go.ChangeShapes Go.WideShapes Go.ChangeAt
set_option linter.unusedVariables false
theorem ownS_lower {s : Nat} {w : World} {base base' : Nat} {A : Option Addr} {n c : Nat} {f : Nat → Int} (h : OwnS s w base A n c f) (hb : base' ≤ base) : OwnS s w base' A n c f :=
  ⟨h.1, h.2.1, h.2.2.1, fun hn => by obtain ⟨b, o, e, h1, h2⟩ := h.2.2.2 hn; exact ⟨b, o, e, Nat.le_trans hb h1, h2⟩⟩
theorem cells_of_rows3 {H : Type} {enc : TypeId × Value → H} {P : Program} {w : World} {base : Nat} {sp : Nat → Bool} {held : Bool} {fuel : Nat} {t e e2 e3 : TypeId} {n m l : Nat} {cs : List Value} {rows : List (List (List Int))} {p : List MemPlace}
    (ht : P.underlying t = some (.array n e)) (he : P.underlying e = some (.array m e2)) (he2 : P.underlying e2 = some (.array l e3)) (hi3 : P.underlying e3 = some (.int .i64)) (hce : P.cellsOf e = m * l) (hce2 : P.cellsOf e2 = l) (hce3 : P.cellsOf e3 = 1)
    (h : DataW.trod enc P w base sp held fuel t cs = some (.agg (rows.map fun rs => .agg (rs.map fun r => .agg (r.map fun z => .lit (.int .i64 z)))), p)) (i j q : Nat) (hi : i < n) (hj : j < m) (hq : q < l) (rs : List (List Int)) (r : List Int) (z : Int) (hrs : rows[i]? = some rs) (hr : rs[j]? = some r) (hz : r[q]? = some z) :
    cs[i * (m * l) + (j * l + q)]? = some (.int .i64 z) := by
  obtain ⟨xs, k, -, hx, hlen, hn, hel⟩ := DataW.trod_array ht h
  have hxi := hel i hi
  rw [hce] at hxi
  have hxs : xs.map (·.1) = rows.map fun rs => (DataW.agg (rs.map fun r => .agg (r.map fun z => .lit (.int .i64 z))) : DataW H) := by
    have := congrArg Prod.fst hx
    simpa using this.symm
  have hxl : xs[i]? = some (xs[i]'(by omega)) := List.getElem?_eq_getElem (by omega)
  rw [hxl] at hxi
  have h2 : (xs.map (·.1))[i]? = some (xs[i]'(by omega)).1 := by rw [List.getElem?_map, hxl]; rfl
  rw [hxs] at h2
  simp only [List.getElem?_map, hrs, Option.map_some, Option.some.injEq] at h2
  have h3 : xs[i]'(by omega) = (DataW.agg (rs.map fun r => .agg (r.map fun z => .lit (.int .i64 z))), (xs[i]'(by omega)).2) := by
    rw [h2]
  rw [h3] at hxi
  have hc := cells_of_rows he he2 hi3 hce2 hce3 hxi j q hj hq r z hr hz
  have hlt : j * l + q < m * l := by
    have := Nat.mul_le_mul_right l (Nat.succ_le_of_lt hj)
    rw [Nat.succ_mul] at this
    omega
  rw [List.getElem?_take_of_lt hlt, List.getElem?_drop] at hc
  exact hc
def TabsJ (w : World) : Prop := (max 0 1 < w.heap.size) ∧ Cel w 1 [.int .i64 (-1), .int .i64 (-1), .int .i64 1, .int .i64 (-1), .int .i64 (-1), .int .i64 1, .int .i64 1, .int .i64 1] ∧ Cel w 0 [.int .i64 0, .int .i64 3, .int .i64 1, .int .i64 2, .int .i64 0, .int .i64 2, .int .i64 1, .int .i64 3, .int .i64 0, .int .i64 1, .int .i64 2, .int .i64 3]
theorem TabsJ.mk_ {w : World} (h1 : Cel w 1 [.int .i64 (-1), .int .i64 (-1), .int .i64 1, .int .i64 (-1), .int .i64 (-1), .int .i64 1, .int .i64 1, .int .i64 1]) (h2 : Cel w 0 [.int .i64 0, .int .i64 3, .int .i64 1, .int .i64 2, .int .i64 0, .int .i64 2, .int .i64 1, .int .i64 3, .int .i64 0, .int .i64 1, .int .i64 2, .int .i64 3]) : TabsJ w := ⟨by have := h1.1; have := h2.1; omega, h1, h2⟩
theorem TabsJ.below {B : Nat} {w w' : World} (h : TabsJ w) (hb : Below B w w') (hB : max 0 1 < B) : TabsJ w' :=
  ⟨Nat.lt_of_lt_of_le h.1 hb.size, h.2.1.below hb (by omega), h.2.2.below hb (by omega)⟩
theorem TabsJ.old {w w' : World} (h : TabsJ w) (o : Old w w') : TabsJ w' := h.below o.2 h.1
theorem TabsJ.grownR {w w' : World} {r : Option Nat} (h : TabsJ w) (g : w.grownBy w' r) (hne : ∀ p, p ≤ max 0 1 → r = some p → False) : TabsJ w' :=
  TabsJ.mk_ (h.2.1.grownR g (hne _ (by omega))) (h.2.2.grownR g (hne _ (by omega)))
theorem impl_effectOfT (w : World) (W H : Int) (A : Option Addr) (n c : Nat) (f : Nat → Int) (x y z : Int) (hr : Row .i64 w A n c f) (hT : TabsJ w) :
    Calls Tryd.prog 15 #[.agg #[.int .i64 W, .int .i64 H, .slice A n c], .agg #[.int .i64 x, .int .i64 y], .int .i64 z] w (Gives (.tuple #[.int .i64 (efV W H n f x y z), .int .i64 (setC W H n f x y z)]) w) :=
  impl_effectOf w W H A n c f x y z hr hT.2.1 hT.2.2
end Go.Proofs.YtjgclemfehfgiaaDoor.Base
namespace Go.Proofs.YtjgclemfehfgiaaDoor.Base
open Go.RowKit
set_option linter.unusedVariables false
set_option linter.unusedSimpArgs false


/-- the number of segments of a valid panel -/
def sgcN (W H : Int) (n : Nat) (f : Nat → Int) : Nat := (segN W H n f).toNat
noncomputable def sgcF (W H : Int) (f : Nat → Int) : Nat → Int := (trs W H f (4 * W * H).toNat).of
theorem sgc_wf {W H : Int} {n : Nat} {f : Nat → Int} (hv : validB W H n f = true) (i : Nat) : (Lit.int .i64 (sgcF W H f i)).wf = true := by
  obtain ⟨hW, hH, -, -⟩ := validB_yes hv
  obtain ⟨m0, m1⟩ := segs_bd hW hH
  obtain ⟨h1, h2, h3⟩ := trs_of_ge W H f (4 * W * H).toNat i
  exact WalkArith.wf_i64 (by unfold sgcF; omega)
theorem sgcN_no {W H : Int} {n : Nat} {f : Nat → Int} (hv : validB W H n f = false) : sgcN W H n f = 0 := by unfold sgcN; rw [(segN_no hv).1]; rfl
theorem sgcN_yes {W H : Int} {n : Nat} {f : Nat → Int} (hv : validB W H n f = true) : sgcN W H n f = (4 * W * H).toNat := by unfold sgcN; rw [(segN_yes hv).1]
theorem sgcN_le (W H : Int) (n : Nat) (f : Nat → Int) : sgcN W H n f ≤ 256 := by
  cases hv : validB W H n f
  · rw [sgcN_no hv]; omega
  · obtain ⟨hW, hH, -, -⟩ := validB_yes hv
    obtain ⟨m0, m1⟩ := segs_bd hW hH
    rw [sgcN_yes hv]; omega
end Go.Proofs.YtjgclemfehfgiaaDoor.Base
namespace Go.Proofs.YtjgclemfehfgiaaDoor.Base
open Go Go.RowKit
set_option linter.unusedVariables false
set_option linter.unusedSimpArgs false
/-- four curves that are equal in pairs -/
def Pairs4 (a b c d : Int) : Prop := (a = d ∧ b = c) ∨ (a = c ∧ b = d) ∨ (a = b ∧ c = d)
/-- the four curves at an inner point -/
theorem pt_pairs {W H : Int} {n : Nat} {f : Nat → Int} {x y : Int} (hv : validB W H n f = true) (hp : hasB W H x y = true) (he : edgeB W H x y = false) :
    ∃ z0 z1 z2 z3 : Nat, me0 H (trE W H f).of x y = z0 ∧ me1 H (trE W H f).of x y = z1 ∧ me2 H (trE W H f).of x y = z2 ∧ me3 H (trE W H f).of x y = z3 ∧ Pairs4 z0 z1 z2 z3 ∧ z0 ≤ 256 ∧ z1 ≤ 256 ∧ z2 ≤ 256 ∧ z3 ≤ 256 := by
  obtain ⟨hW, hH, hn, -⟩ := validB_yes hv
  obtain ⟨m0, m1⟩ := segs_bd hW hH
  have hcn := cnN_le hv
  obtain ⟨u1, u2, u3, u4, u5⟩ := has_yes hp
  have u6 : ¬ (x = 0 ∨ y = 0 ∨ x = 2 * W ∨ y = 2 * H) := of_decide_eq_false he
  have hc : Closed W H n f (trE W H f).of := trs_closed hv (4 * W * H).toNat (by omega)
  obtain ⟨⟨r0, r0'⟩, ⟨r1, r1'⟩, ⟨r2, r2'⟩, ⟨r3, r3'⟩⟩ := segs_in hv (x := x) (y := y) (by omega) (by omega) (by omega) (by omega) u5
  have q0 := meet hc (wk_mk hv (ex := -1) (ey := -1) rfl rfl hp (has_mk (by omega) (by omega) (by omega) (by omega) (by omega)))
  have q1 := meet hc (wk_mk hv (ex := 1) (ey := -1) rfl rfl hp (has_mk (by omega) (by omega) (by omega) (by omega) (by omega)))
  have q2 := meet hc (wk_mk hv (ex := -1) (ey := 1) rfl rfl hp (has_mk (by omega) (by omega) (by omega) (by omega) (by omega)))
  generalize tkOf W H f x y = t at q0 q1 q2
  have rng : ∀ s : Int, 0 ≤ s → s < ((4 * W * H).toNat : Int) → 0 ≤ (trE W H f).of s.toNat ∧ (trE W H f).of s.toNat < cnN W H f := fun s h1 h2 =>
    ⟨trs_done hv (4 * W * H).toNat s.toNat (by omega) (by omega), (trs_of_ge W H f (4 * W * H).toNat s.toNat).2.1⟩
  have e0 : 0 ≤ me0 H (trE W H f).of x y ∧ me0 H (trE W H f).of x y < cnN W H f := rng _ r0 r0'
  have e1 : 0 ≤ me1 H (trE W H f).of x y ∧ me1 H (trE W H f).of x y < cnN W H f := rng _ r1 r1'
  have e2 : 0 ≤ me2 H (trE W H f).of x y ∧ me2 H (trE W H f).of x y < cnN W H f := rng _ r2 r2'
  have e3 : 0 ≤ me3 H (trE W H f).of x y ∧ me3 H (trE W H f).of x y < cnN W H f := rng _ r3 r3'
  have hpr : Pairs4 (me0 H (trE W H f).of x y) (me1 H (trE W H f).of x y) (me2 H (trE W H f).of x y) (me3 H (trE W H f).of x y) := by
    unfold Pairs4 me0 me1 me2 me3
    by_cases t1 : t = 1
    · subst t1
      simp only [if_true, show ¬ ((1 : Int) = 2) by decide, if_false, Int.neg_neg] at q0 q1
      exact .inr (.inl ⟨q0, q1⟩)
    · by_cases t2 : t = 2
      · subst t2
        simp only [if_true, show ¬ ((2 : Int) = 1) by decide, if_false, Int.neg_neg] at q0 q2
        exact .inr (.inr ⟨q0, q2⟩)
      · simp only [if_neg t1, if_neg t2, Int.neg_neg] at q0 q1
        exact .inl ⟨q0, q1⟩
  refine ⟨(me0 H (trE W H f).of x y).toNat, (me1 H (trE W H f).of x y).toNat, (me2 H (trE W H f).of x y).toNat, (me3 H (trE W H f).of x y).toNat, by omega, by omega, by omega, by omega, ?_, by omega, by omega, by omega, by omega⟩
  rw [show (((me0 H (trE W H f).of x y).toNat : Nat) : Int) = me0 H (trE W H f).of x y by omega, show (((me1 H (trE W H f).of x y).toNat : Nat) : Int) = me1 H (trE W H f).of x y by omega, show (((me2 H (trE W H f).of x y).toNat : Nat) : Int) = me2 H (trE W H f).of x y by omega, show (((me3 H (trE W H f).of x y).toNat : Nat) : Int) = me3 H (trE W H f).of x y by omega]
  exact hpr
theorem code_in {W H : Int} {n : Nat} {f : Nat → Int} {x y : Int} (h : codeP W H n f x y = 0) : validB W H n f = true ∧ hasB W H x y = true ∧ edgeB W H x y = false := by
  unfold codeP at h
  cases h1 : validB W H n f
  · simp [h1] at h
  · cases h2 : hasB W H x y
    · simp [h1, h2] at h
    · cases h3 : edgeB W H x y
      · exact ⟨rfl, rfl, rfl⟩
      · simp [h1, h2, h3] at h
end Go.Proofs.YtjgclemfehfgiaaDoor.Base
namespace Go.Proofs.YtjgclemfehfgiaaDoor.Base
open Go Go.RowKit
set_option linter.unusedVariables false
set_option linter.unusedSimpArgs false

/-- the numbers below n with a property -/
def flI (ok : Nat → Bool) : Nat → List Int
  | 0 => []
  | k + 1 => if ok k then flI ok k ++ [(k : Int)] else flI ok k
section
variable {ok ok' : Nat → Bool}
theorem flI_yes {k : Nat} (h : ok k = true) : flI ok (k + 1) = flI ok k ++ [(k : Int)] := if_pos h
theorem flI_no {k : Nat} (h : ok k = false) : flI ok (k + 1) = flI ok k := if_neg (by simp [h])
theorem flI_len : ∀ k, (flI ok k).length ≤ k
  | 0 => Nat.le_refl _
  | k + 1 => by
    have := flI_len k
    cases h : ok k
    · rw [flI_no h]; omega
    · rw [flI_yes h]; simp; omega
theorem flI_bd : ∀ k, ∀ x ∈ flI ok k, 0 ≤ x ∧ x < (k : Int)
  | 0 => fun x hx => by cases hx
  | k + 1 => fun x hx => by
    cases h : ok k
    · rw [flI_no h] at hx
      have := flI_bd k x hx
      omega
    · rw [flI_yes h] at hx
      rcases List.mem_append.1 hx with hx | hx
      · have := flI_bd k x hx
        omega
      · simp at hx
        omega
theorem flI_congr : ∀ n, (∀ k, k < n → ok k = ok' k) → flI ok n = flI ok' n
  | 0, _ => rfl
  | n + 1, h => by
    have ih := flI_congr n (fun k hk => h k (by omega))
    show (if ok n then flI ok n ++ [(n : Int)] else flI ok n) = (if ok' n then flI ok' n ++ [(n : Int)] else flI ok' n)
    rw [ih, h n (by omega)]
end
def flF (ok : Nat → Bool) (n i : Nat) : Int := (flI ok n).getD i 0
theorem fl_own {w : World} {base base' : Nat} {ok : Nat → Bool} {n : Nat} {A : Option Addr} {c : Nat} (hn : n ≤ 1000000) (h : w.ownsRow base 2 1 (.slice A (flI ok n).length c) (flI ok n).length (ivs (flI ok n))) (hb : base' ≤ base) : OwnS 1 w base' A (flI ok n).length c (flF ok n) :=
  ownS_ivs h (fun i hi => by
      unfold ivs
      simp [flF, hi])
    (fun i hi => by
      have hm : flF ok n i ∈ flI ok n := by
        unfold flF
        rw [List.getD_eq_getElem?_getD, List.getElem?_eq_getElem hi]
        exact List.getElem_mem hi
      have := flI_bd n _ hm
      exact WalkArith.wf_i64 (by omega)) hb (by unfold maxLen; have := flI_len (ok := ok) n; omega)
/-- a list of the numbers below n with a property, made by the call -/
def PtsL (ok : Nat → Bool) (n : Nat) (w : World) (e : Ending) (w' : World) : Prop :=
  ∃ A c, e = .returned (.slice A (flI ok n).length c) ∧ w'.ownsRow w.heap.size 2 1 (.slice A (flI ok n).length c) (flI ok n).length (ivs (flI ok n)) ∧ Below w.heap.size w w'
/-- a is the curve of a segment at a point -/
def mtB (H : Int) (g : Nat → Int) (x y a : Int) : Bool := me0 H g x y == a || (me1 H g x y == a || (me2 H g x y == a || me3 H g x y == a))
theorem spec_has4 (w : World) (b c : Nat) (m0 m1 m2 m3 a : Int) (v : Bool) (hv : (m0 == a || (m1 == a || (m2 == a || m3 == a))) = v) (h0 : w.cell? ⟨b, 0, none⟩ = some (.int .i64 m0)) (h1 : w.cell? ⟨b, 1, none⟩ = some (.int .i64 m1)) (h2 : w.cell? ⟨b, 2, none⟩ = some (.int .i64 m2)) (h3 : w.cell? ⟨b, 3, none⟩ = some (.int .i64 m3)) :
    Calls Tryd.prog 146 #[.slice (some ⟨b, 0, none⟩) 4 c, .int .i64 a] w (fun e w' => e = .returned (.bool v) ∧ w = w') := by
  have hb := World.block_lt_of_cell? _ _ h0
  have HV := Lib.hid hv
  clear hv
  go_enter Tryd.func146, Tryd.ntmps146
  go_wp2
  go_loop [5] (fun i => ∃ k : Nat, k ≤ 4 ∧ i = .int .i64 k ∧ Hid ((1 ≤ k → (m0 == a) = false) ∧ (2 ≤ k → (m1 == a) = false) ∧ (3 ≤ k → (m2 == a) = false) ∧ (4 ≤ k → (m3 == a) = false))) (fun i => 5 - (intOf i).toNat)
  case atStart => exact ⟨0, Nat.zero_le _, rfl, Lib.hid ⟨fun h => absurd h (by omega), fun h => absurd h (by omega), fun h => absurd h (by omega), fun h => absurd h (by omega)⟩⟩
  case round =>
    obtain ⟨k, hk, rfl, HN⟩ := hrel
    have hk4 : k = 0 ∨ k = 1 ∨ k = 2 ∨ k = 3 ∨ k = 4 := by omega
    rcases hk4 with rfl | rfl | rfl | rfl | rfl
    · cases e : (m0 == a)
      · go_wp2
        go_round
        case rel => exact ⟨1, by omega, rfl, Lib.hid ⟨fun _ => (by first | exact e | trivial), fun h => absurd h (by omega), fun h => absurd h (by omega), fun h => absurd h (by omega)⟩⟩
        case measure => simp [intOf]
      · have hv := HV.out
        rw [e] at hv
        have HT := Lib.hid hv
        clear hv
        go_wp2
        go_ret
        exact ⟨ret_bool (by rw [← HT.out]; rfl), rfl⟩
    · cases e : (m1 == a)
      · go_wp2
        go_round
        case rel => exact ⟨2, by omega, rfl, Lib.hid ⟨fun _ => HN.out.1 (by omega), fun _ => (by first | exact e | trivial), fun h => absurd h (by omega), fun h => absurd h (by omega)⟩⟩
        case measure => simp [intOf]
      · have hv := HV.out
        rw [e] at hv
        have HT := Lib.hid hv
        clear hv
        go_wp2
        go_ret
        exact ⟨ret_bool (by rw [← HT.out]; simp), rfl⟩
    · cases e : (m2 == a)
      · go_wp2
        go_round
        case rel => exact ⟨3, by omega, rfl, Lib.hid ⟨fun _ => HN.out.1 (by omega), fun _ => HN.out.2.1 (by omega), fun _ => (by first | exact e | trivial), fun h => absurd h (by omega)⟩⟩
        case measure => simp [intOf]
      · have hv := HV.out
        rw [e] at hv
        have HT := Lib.hid hv
        clear hv
        go_wp2
        go_ret
        exact ⟨ret_bool (by rw [← HT.out]; simp), rfl⟩
    · cases e : (m3 == a)
      · go_wp2
        go_round
        case rel => exact ⟨4, by omega, rfl, Lib.hid ⟨fun _ => HN.out.1 (by omega), fun _ => HN.out.2.1 (by omega), fun _ => HN.out.2.2.1 (by omega), fun _ => (by first | exact e | trivial)⟩⟩
        case measure => simp [intOf]
      · have hv := HV.out
        rw [e] at hv
        have HT := Lib.hid hv
        clear hv
        go_wp2
        go_ret
        exact ⟨ret_bool (by rw [← HT.out]; simp), rfl⟩
    · have hv := HV.out
      rw [HN.out.1 (by omega), HN.out.2.1 (by omega), HN.out.2.2.1 (by omega), HN.out.2.2.2 (by omega)] at hv
      have HT := Lib.hid hv
      clear hv
      go_wp2
      go_ret
      exact ⟨ret_bool (by rw [← HT.out]; rfl), rfl⟩
set_option maxHeartbeats 4000000 in
set_option maxRecDepth 100000 in
theorem spec_meetPts (w : World) (p b : Nat) (W H : Int) (A : Option Addr) (n c : Nat) (f g : Nat → Int) (a1 a2 : Int) (hb : Box w p W H A n c) (hr : Row .i64 w A n c f) (ho : w.rowIs b 2 (4 * W * H).toNat (fun s => .int .i64 (g s))) (hv : validB W H n f = true) (ok : Nat → Bool) (hok : ∀ k : Nat, (mtB H g (ptX W k) (ptY W k) a1 && mtB H g (ptX W k) (ptY W k) a2) = ok k) :
    Calls Tryd.prog 90 #[.pointer (some ⟨p, 0, none⟩), .slice (some ⟨b, 0, none⟩) (4 * W * H).toNat (4 * W * H).toNat, .int .i64 a1, .int .i64 a2] w (PtsL ok n w) := by
  obtain ⟨hW, hH, hn, -⟩ := validB_yes hv
  obtain ⟨m0, m1⟩ := segs_bd hW hH
  obtain ⟨i0, i1⟩ := inner_bd hW hH
  obtain ⟨w1', w2'⟩ := side_mk hW
  obtain ⟨v1', v2'⟩ := side_mk hH
  have HSI := Lib.hid (fun (k : Nat) (hk : k < n) => by
    obtain ⟨p1, p2, p3, p4, p5⟩ := pt_in hW hH (k := (k : Int)) (by omega) (by omega)
    exact (⟨segs_in hv p1 p2 p3 p4 p5, p1, by omega, p3, by omega⟩ : SegsIn H (4 * W * H).toNat (ptX W k) (ptY W k) ∧ 1 ≤ ptX W k ∧ ptX W k ≤ 16 ∧ 1 ≤ ptY W k ∧ ptY W k ≤ 16))
  have hM1 : (4 * W * H).toNat ≤ 256 := by omega
  have hb1 := hb.1
  have hcm := hr.2.1
  have hnc := hr.1
  unfold maxLen at hcm
  have HX := Lib.hid hb
  have HO := Lib.hid ho
  have hbl := ho.lt
  obtain ⟨i2, hi2, hz0, hz1, hz2⟩ := info_parts infoI64
  have HO1 := Lib.hid (owns_empty w 2)
  have hn1 : n ≤ 112 := by omega
  clear hb hr ho hv
  generalize (4 * W * H).toNat = M at HSI hM1 HO ⊢
  have HOK := Lib.hid hok
  clear hok
  go_enter Tryd.func90, Tryd.ntmps90
  go_wp2
  go_loopw [9, 10] (fun u kv wr => ∃ k : Nat, k ≤ n ∧ kv = .int .i64 k ∧ Hid (wr.ownsRow w.heap.size 2 1 u (flI ok k).length (ivs (flI ok k))) ∧ Hid (Below w.heap.size w wr)) (fun _ kv _ => 200 - (intOf kv).toNat)
  case atStart => exact ⟨0, Nat.zero_le _, rfl, HO1, Lib.hid ((Below.refl _ _).alloc (Nat.le_refl _) _)⟩
  case round =>
    clear HO1
    obtain ⟨k, hk, rfl, HU, HB⟩ := hrel
    obtain ⟨Ao, co, rfl⟩ := owns_slice HU.out
    have hBz := HB.out.size
    have hln := flI_len (ok := ok) k
    have HXr := Lib.hid (HX.out.below HB.out hb1)
    obtain ⟨hp, k0, k1, k2⟩ := id HXr.out
    by_cases hlt : k < n
    · obtain ⟨hSI, p1, p2, p3, p4⟩ := HSI.out k hlt
      have HSS := Lib.hid hSI
      obtain ⟨v1, hv1⟩ : ∃ v1, mtB H g (ptX W k) (ptY W k) a1 = v1 := ⟨_, rfl⟩
      obtain ⟨v2, hv2⟩ : ∃ v2, mtB H g (ptX W k) (ptY W k) a2 = v2 := ⟨_, rfl⟩
      have HOk := Lib.hid (show (v1 && v2) = ok k by rw [← hv1, ← hv2]; exact HOK.out k)
      have HV1 := Lib.hid hv1
      have HV2 := Lib.hid hv2
      clear hSI hv1 hv2
      go_wp2_with fail
      refine (specPoint _ p W H _ n c k HXr.out hW hH (by omega) (by omega)).mono ?_
      rintro e w2 ⟨rfl, b2⟩
      have HB2 := Lib.hid (HB.out.trans (b2.mono HB.out.size))
      have HU2 := Lib.hid (owns_belowS HU.out b2)
      clear b2 k0 k1 k2
      go_wp2_with fail
      refine (spec_meet _ p b W H _ n c M g (ptX W k) (ptY W k) (HX.out.below HB2.out hb1) (rowIs_below HO.out HB2.out hbl) hH p1 p2 p3 p4 HSS.out hM1).mono ?_
      rintro e w3 ⟨bq, cq, rfl, hq, q0, q1, q2, q3, b3⟩
      have HB3 := Lib.hid (HB2.out.trans (b3.mono HB2.out.size))
      have HU3 := Lib.hid (owns_belowS HU2.out b3)
      have HH1 := Lib.hid (spec_has4 w3 bq cq _ _ _ _ a1 v1 HV1.out q0 q1 q2 q3)
      have HH2 := Lib.hid (spec_has4 w3 bq cq _ _ _ _ a2 v2 HV2.out q0 q1 q2 q3)
      have hz3 := HB3.out.size
      clear b3 HSS HU HU2 HB2 HB q0 q1 q2 q3 hq HV1 HV2
      go_wp2_with fail
      refine HH1.out.mono ?_
      rintro e w4 ⟨rfl, hw⟩
      subst hw
      cases v1
      · go_wp2
        go_roundw
        case rel => exact ⟨k + 1, by omega, by go_num, Lib.hid (by rw [flI_no (by rw [← HOk.out]; rfl)]; exact HU3.out), HB3⟩
        case measure => simp [intOf]; omega
      · go_wp2_with fail
        refine HH2.out.mono ?_
        rintro e w4 ⟨rfl, hw⟩
        subst hw
        cases v2
        · go_wp2
          go_roundw
          case rel => exact ⟨k + 1, by omega, by go_num, Lib.hid (by rw [flI_no (by rw [← HOk.out]; rfl)]; exact HU3.out), HB3⟩
          case measure => simp [intOf]; omega
        · have HYS := Lib.hid (flI_yes (ok := ok) (k := k) (by rw [← HOk.out]; rfl))
          have hXa := Lib.hid ((Below.refl w3.heap.size w3).alloc (Nat.le_refl _) (.cells #[.int .i64 (k : Int)] 2))
          obtain ⟨ln, hlne⟩ : ∃ ln, (flI ok k).length = ln := ⟨_, rfl⟩
          rw [hlne] at HU3 hln ⊢
          have HLN := Lib.hid hlne
          clear hlne
          go_wp2_with (first
            | (at_builtin; refine wpList_append_lies _ (by rfl) _ _ _ (by rfl) w.heap.size 2 i2 _ 1 8 Tryd.underlying22 hi2 hz0 hz1 hz2 rfl (by omega) _ ln (ivs (flI ok k)) (by rfl) (owns_belowS HU3.out hXa.out) ⟨w3.heap.size, 0, none⟩ 1 1 [.int .i64 (k : Int)] (by rfl) (by rfl) (World.news_of_block (cs := #[.int .i64 (k : Int)]) (t := 2) (fr := (0, 0)) (heap_alloc_new w3 _)) (fun u hu => by simp at hu; subst hu; rfl) (by omega) (by unfold maxLen; omega) (by omega) (by simp; omega) (w3.heap.size + 1) (by simp) ?_; intro g6 cap6 w6 hown6 hgrow6 hat6 hlt6; have HOW := Lib.hid hown6; have HGR := Lib.hid hgrow6; clear hown6 hgrow6 hat6))
          go_roundw
          case rel =>
            refine ⟨k + 1, by omega, by go_num, Lib.hid ?_, Lib.hid ((HB3.out.trans (hXa.out.mono (by omega))).grown HGR.out (by simp; omega) (fun b e => (HU3.out.lt b e).1))⟩
            have e : ivs (flI ok (k + 1)) = ivs (flI ok k) ++ [.int .i64 (k : Int)] := by rw [HYS.out]; unfold ivs; simp
            have e2 : (flI ok (k + 1)).length = ln + 1 := by rw [HYS.out, List.length_append, HLN.out]; rfl
            rw [e, e2]
            exact HOW.out
          case measure => simp [intOf]; omega
    · obtain rfl : k = n := by omega
      go_wp2
      go_ret
      exact ⟨Ao, co, rfl, HU.out, HB.out⟩
/-- segments of both curves meet at the point with a number -/
noncomputable def okP (W H : Int) (f : Nat → Int) (a b : Int) (k : Nat) : Bool := mtB H (trE W H f).of (ptX W k) (ptY W k) a && mtB H (trE W H f).of (ptX W k) (ptY W k) b
noncomputable def cpN (W H : Int) (n : Nat) (f : Nat → Int) (a : Int) : Nat := if cuC W H n f a = 0 then (flI (okP W H f a a) n).length else 0
noncomputable def spN (W H : Int) (n : Nat) (f : Nat → Int) (a b : Int) : Nat := if ccC W H n f a b = 0 then (flI (okP W H f a b) n).length else 0
noncomputable def spF (W H : Int) (n : Nat) (f : Nat → Int) (a b : Int) : Nat → Int := flF (okP W H f a b) n
theorem cpN_bd (W H : Int) (n : Nat) (f : Nat → Int) (a : Int) : cpN W H n f a ≤ n := by
  unfold cpN
  split
  · exact flI_len n
  · omega
theorem spN_bd (W H : Int) (n : Nat) (f : Nat → Int) (a b : Int) : spN W H n f a b ≤ n := by
  unfold spN
  split
  · exact flI_len n
  · omega
theorem spec_curvePoints (w : World) (W H : Int) (A : Option Addr) (n c : Nat) (f : Nat → Int) (s : Int) (hr : Row .i64 w A n c f) :
    Calls Tryd.prog 43 #[.agg #[.int .i64 W, .int .i64 H, .slice A n c], .int .i64 s] w (ListOut 1 (cpN W H n f s) (spF W H n f s s) (cuC W H n f s) w.heap.size w) := by
  have HL := Lib.hid (show Below w.heap.size w (w.alloc (.cells #[.int .i64 W, .int .i64 H, .slice A n c] 30)) from (Below.refl _ _).alloc (Nat.le_refl _) _)
  have HX := Lib.hid (Box.new w 30 W H A n c)
  have HR := Lib.hid (hr.below HL.out (Nat.le_refl _))
  clear hr
  unfold cpN
  rcases cu_cases W H n f s with ⟨hv, e⟩ | ⟨hv, hk, e⟩ | ⟨hv, hk, e⟩
  · rw [e]
    have hc := spec_codeBad _ _ W H A n c f s HX.out HR.out hv
    have HC := Lib.hid hc
    clear hc hv e
    go_enter Tryd.func43, Tryd.ntmps43
    go_wp2_with fail
    refine HC.out.mono ?_
    rintro e w1 ⟨rfl, b1⟩
    go_wp2
    go_ret2
    exact ⟨none, 0, rfl, ownS_nil _ _ _ _, HL.out.trans (b1.mono (by first | exact Nat.le_refl _ | (simp; done) | (simp; omega) | omega))⟩
  · rw [e]
    have hc := spec_codeOut _ _ W H A n c f s HX.out HR.out hv hk
    have HC := Lib.hid hc
    clear hc hv hk e
    go_enter Tryd.func43, Tryd.ntmps43
    go_wp2_with fail
    refine HC.out.mono ?_
    rintro e w1 ⟨rfl, b1⟩
    go_wp2
    go_ret2
    exact ⟨none, 0, rfl, ownS_nil _ _ _ _, HL.out.trans (b1.mono (by first | exact Nat.le_refl _ | (simp; done) | (simp; omega) | omega))⟩
  · rw [e, if_pos rfl]
    have hc := spec_codeIn _ _ W H A n c f s HX.out HR.out hv hk
    have HC := Lib.hid hc
    have HV := Lib.hid hv
    have hn : n ≤ 1000000 := by
      obtain ⟨hW, hH, hn, -⟩ := validB_yes hv
      have := inner_bd hW hH
      omega
    clear hc hv hk e
    go_enter Tryd.func43, Tryd.ntmps43
    go_wp2_with fail
    refine HC.out.mono ?_
    rintro e w1 ⟨b, rfl, h1, b1⟩
    have HO := Lib.hid h1
    have HB := Lib.hid b1
    clear h1 b1
    go_wp2_with fail
    refine (spec_meetPts _ _ b W H A n c f _ s s (HX.out.below HB.out HX.out.1) (HR.out.below HB.out (Nat.le_refl _)) HO.out HV.out (okP W H f s s) (fun _ => rfl)).mono ?_
    rintro e w2 ⟨A2, c2, rfl, h2, b2⟩
    have HO2 := Lib.hid h2
    have HB2 := Lib.hid ((HL.out.trans (HB.out.mono (by first | exact Nat.le_refl _ | (simp; done) | (simp; omega) | omega))).trans (b2.mono (Nat.le_trans HL.out.size HB.out.size)))
    have hsz := Nat.le_trans HL.out.size HB.out.size
    clear h2 b2
    go_wp2
    go_ret2
    exact ⟨A2, c2, rfl, fl_own hn HO2.out hsz, HB2.out⟩
theorem spec_sharedPoints (w : World) (W H : Int) (A : Option Addr) (n c : Nat) (f : Nat → Int) (s t : Int) (hr : Row .i64 w A n c f) :
    Calls Tryd.prog 40 #[.agg #[.int .i64 W, .int .i64 H, .slice A n c], .int .i64 s, .int .i64 t] w (ListOut 1 (spN W H n f s t) (spF W H n f s t) (ccC W H n f s t) w.heap.size w) := by
  have HL := Lib.hid (show Below w.heap.size w (w.alloc (.cells #[.int .i64 W, .int .i64 H, .slice A n c] 30)) from (Below.refl _ _).alloc (Nat.le_refl _) _)
  have HX := Lib.hid (Box.new w 30 W H A n c)
  have HR := Lib.hid (hr.below HL.out (Nat.le_refl _))
  clear hr
  unfold spN ccC
  rcases cu_cases W H n f s with ⟨hv, e⟩ | ⟨hv, hk, e⟩ | ⟨hv, hk, e⟩
  · rw [e]
    have hc := spec_codeBad _ _ W H A n c f s HX.out HR.out hv
    have HC := Lib.hid hc
    clear hc hv e
    go_enter Tryd.func40, Tryd.ntmps40
    go_wp2_with fail
    refine HC.out.mono ?_
    rintro e w1 ⟨rfl, b1⟩
    go_wp2
    go_ret2
    exact ⟨none, 0, rfl, ownS_nil _ _ _ _, HL.out.trans (b1.mono (by first | exact Nat.le_refl _ | (simp; done) | (simp; omega) | omega))⟩
  · rw [e]
    have hc := spec_codeOut _ _ W H A n c f s HX.out HR.out hv hk
    have HC := Lib.hid hc
    clear hc hv hk e
    go_enter Tryd.func40, Tryd.ntmps40
    go_wp2_with fail
    refine HC.out.mono ?_
    rintro e w1 ⟨rfl, b1⟩
    go_wp2
    go_ret2
    exact ⟨none, 0, rfl, ownS_nil _ _ _ _, HL.out.trans (b1.mono (by first | exact Nat.le_refl _ | (simp; done) | (simp; omega) | omega))⟩
  · rw [e]
    have hc := spec_codeIn _ _ W H A n c f s HX.out HR.out hv hk
    have HC := Lib.hid hc
    have HV := Lib.hid hv
    have hn : n ≤ 1000000 := by
      obtain ⟨hW, hH, hn, -⟩ := validB_yes hv
      have := inner_bd hW hH
      omega
    rcases cu_cases W H n f t with ⟨hv2, e2⟩ | ⟨-, hk2, e2⟩ | ⟨-, hk2, e2⟩
    · rw [hv] at hv2; cases hv2
    · rw [e2]
      have HK2 := Lib.hid hk2
      clear hc hv hk e e2 hk2
      go_enter Tryd.func40, Tryd.ntmps40
      go_wp2_with fail
      refine HC.out.mono ?_
      rintro e w1 ⟨b, rfl, h1, b1⟩
      have HB := Lib.hid b1
      clear h1 b1
      go_wp2_with fail
      refine (spec_codeOut _ _ W H A n c f t (HX.out.below HB.out HX.out.1) (HR.out.below HB.out (Nat.le_refl _)) HV.out HK2.out).mono ?_
      rintro e w2 ⟨rfl, b2⟩
      go_wp2
      go_ret2
      exact ⟨none, 0, rfl, ownS_nil _ _ _ _, (HL.out.trans (HB.out.mono (by first | exact Nat.le_refl _ | (simp; done) | (simp; omega) | omega))).trans (b2.mono (Nat.le_trans HL.out.size HB.out.size))⟩
    · rw [e2]
      have HK2 := Lib.hid hk2
      clear hc hv hk e e2 hk2
      by_cases hst : s = t
      · subst hst
        simp only [if_true]
        go_enter Tryd.func40, Tryd.ntmps40
        go_wp2_with fail
        refine HC.out.mono ?_
        rintro e w1 ⟨b, rfl, h1, b1⟩
        have HB := Lib.hid b1
        clear h1 b1
        go_wp2_with fail
        refine (spec_codeIn _ _ W H A n c f s (HX.out.below HB.out HX.out.1) (HR.out.below HB.out (Nat.le_refl _)) HV.out HK2.out).mono ?_
        rintro e w2 ⟨b', rfl, h2, b2⟩
        have HB2 := Lib.hid ((HL.out.trans (HB.out.mono (by first | exact Nat.le_refl _ | (simp; done) | (simp; omega) | omega))).trans (b2.mono (Nat.le_trans HL.out.size HB.out.size)))
        clear h2 b2
        go_wp2
        go_ret2
        exact ⟨none, 0, rfl, ownS_nil _ _ _ _, HB2.out⟩
      · have hb : (s == t) = false := beq_eq_false_iff_ne.2 hst
        simp only [if_neg hst, if_true]
        clear hst
        go_enter Tryd.func40, Tryd.ntmps40
        go_wp2_with fail
        refine HC.out.mono ?_
        rintro e w1 ⟨b, rfl, h1, b1⟩
        have HB := Lib.hid b1
        have HO := Lib.hid h1
        clear h1 b1
        go_wp2_with fail
        refine (spec_codeIn _ _ W H A n c f t (HX.out.below HB.out HX.out.1) (HR.out.below HB.out (Nat.le_refl _)) HV.out HK2.out).mono ?_
        rintro e w2 ⟨b', rfl, h2, b2⟩
        have HO2 := Lib.hid (rowIs_below HO.out b2 HO.out.lt)
        have HB2 := Lib.hid (HB.out.trans (b2.mono HB.out.size))
        clear h2 b2
        go_wp2_with fail
        refine (spec_meetPts _ _ b W H A n c f _ s t (HX.out.below HB2.out HX.out.1) (HR.out.below HB2.out (Nat.le_refl _)) HO2.out HV.out (okP W H f s t) (fun _ => rfl)).mono ?_
        rintro e w3 ⟨A3, c3, rfl, h3, b3⟩
        have HO3 := Lib.hid h3
        have HB3 := Lib.hid ((HL.out.trans (HB2.out.mono (by first | exact Nat.le_refl _ | (simp; done) | (simp; omega) | omega))).trans (b3.mono (Nat.le_trans HL.out.size HB2.out.size)))
        have hsz := Nat.le_trans HL.out.size HB2.out.size
        clear h3 b3
        go_wp2
        go_ret2
        exact ⟨A3, c3, rfl, fl_own hn HO3.out hsz, HB3.out⟩
end Go.Proofs.YtjgclemfehfgiaaDoor.Base
namespace Go.Proofs.YtjgclemfehfgiaaDoor.Base
open Go Go.RowKit
set_option linter.unusedVariables false
set_option linter.unusedSimpArgs false

def rgL (r : Nat → Int) (k : Nat) : List Int := (List.range k).map r
theorem rgL_len (r : Nat → Int) (k : Nat) : (rgL r k).length = k := by simp [rgL]
theorem rgL_snoc (r : Nat → Int) (k : Nat) : ivs (rgL r (k + 1)) = ivs (rgL r k) ++ [.int .i64 (r k)] := by simp [rgL, ivs, List.range_succ]
theorem rgL_at (r : Nat → Int) {k i : Nat} (hi : i < k) : (ivs (rgL r k))[i]? = some (.int .i64 (r i)) := by simp [rgL, ivs, hi]
noncomputable def eaN (W H : Int) (n : Nat) (f : Nat → Int) (x y : Int) : Nat := if codeP W H n f x y = 0 then 3 else 0
noncomputable def eaF (W H : Int) (f : Nat → Int) (x y : Int) : Nat → Int := outK W H f (numN W x y).toNat
theorem eaN_le (W H : Int) (n : Nat) (f : Nat → Int) (x y : Int) : eaN W H n f x y ≤ 3 := by unfold eaN; split <;> omega
theorem outK_bd {W H : Int} {n : Nat} {f : Nat → Int} (hv : validB W H n f = true) (k : Nat) {kd : Nat} (h : kd < 3) : 0 ≤ outK W H f k kd ∧ outK W H f k kd ≤ 256 := by
  have := cnN_le (put_valid hv k (z := (kd : Int)) (by omega) (by omega))
  unfold outK
  omega
section
variable (w : World) (W H : Int) (A : Option Addr) (n c : Nat) (f : Nat → Int) (x y : Int)
set_option maxRecDepth 100000 in
set_option maxHeartbeats 2000000 in
theorem spec_effectsAt (hr : Row .i64 w A n c f) : Calls Tryd.prog 17 #[.agg #[.int .i64 W, .int .i64 H, .slice A n c], .agg #[.int .i64 x, .int .i64 y]] w (ListOut 1 (eaN W H n f x y) (eaF W H f x y) (codeP W H n f x y) w.heap.size w) := by
  have hbel : Below w.heap.size w ((w.alloc (.cells #[.int .i64 W, .int .i64 H, .slice A n c] 30)).alloc (.cells #[.int .i64 x, .int .i64 y] 32)) := ((Below.refl _ _).alloc (Nat.le_refl _) _).alloc (by simp) _
  have hX := two_boxes w 30 32 W H A n c x y
  have hd := Dot.new (w.alloc (.cells #[.int .i64 W, .int .i64 H, .slice A n c] 30)) 32 x y
  simp only [World.size_alloc] at hd
  have HR := Lib.hid (hr.below hbel (Nat.le_refl _))
  have HL := Lib.hid hbel
  have HX := Lib.hid hX
  have HD := Lib.hid hd
  clear hr hbel hX hd
  have HC := Lib.hid (fun (w' : World) (hb : Box w' w.heap.size W H A n c) (hr : Row .i64 w' A n c f) => spec_code w' w.heap.size W H A n c f x y hb hr)
  obtain ⟨dz, d0, d1⟩ := id HD.out
  by_cases hc : codeP W H n f x y = 0
  · obtain ⟨hv, hh, he⟩ := code_zero hc
    obtain ⟨hW, hH, hn, -⟩ := validB_yes hv
    obtain ⟨x1, x2, y1, y2⟩ := inside hW hH hh he
    obtain ⟨l1, l2⟩ := num_lt hW hH hh he
    obtain ⟨k0, hkk⟩ : ∃ k : Nat, numN W x y = (k : Int) := ⟨(numN W x y).toNat, by omega⟩
    have hkn : k0 < n := by omega
    have HN := Lib.hid (fun (w' : World) (hb : Box w' w.heap.size W H A n c) => specNumber w' w.heap.size W H A n c x y hb hW x1 x2 y1 y2)
    have HW10 := Lib.hid (fun (kd : Nat) (h : kd < 3) (w' : World) (hb : Box w' w.heap.size W H A n c) (hr : Row .i64 w' A n c f) => spec_with w' w.heap.size W H A n c f k0 (kd : Int) hb hr hv hkn (by omega) (by omega))
    have hbd := fun kd (h : kd < 3) => outK_bd hv k0 h
    have e1 : eaN W H n f x y = 3 := by unfold eaN; rw [if_pos hc]
    have e2 : eaF W H f x y = outK W H f k0 := by unfold eaF; rw [hkk, Int.toNat_natCast]
    have e3 : ∀ kd : Nat, ((cnN W H (putF f k0 (kd : Int)) : Nat) : Int) = outK W H f k0 kd := fun kd => rfl
    rw [e1, e2, hc]
    rw [hc] at HC
    rw [hkk] at HN
    simp only [e3] at HW10
    obtain ⟨r, hr⟩ : ∃ r, outK W H f k0 = r := ⟨_, rfl⟩
    rw [hr] at HW10 hbd ⊢
    have HBD := Lib.hid hbd
    obtain ⟨i2, hi2, hz0, hz1, hz2⟩ := info_parts infoI64
    clear hv hh he hn x1 x2 y1 y2 l1 l2 hkk hc hW hH hkn e1 e2 e3 hr hbd
    go_enter Tryd.func17, Tryd.ntmps17
    go_wp2_with fail
    clear dz d0 d1
    refine (HC.out _ HX.out HR.out).mono ?_
    rintro e w1 ⟨rfl, b1⟩
    have HX1 := Lib.hid (HX.out.below b1 HX.out.1)
    have HR1 := Lib.hid (HR.out.below b1 (Nat.le_refl _))
    have HL1 := Lib.hid (HL.out.trans (b1.mono HL.out.size))
    have HD1 := Lib.hid (HD.out.below b1 HD.out.1)
    have HO1 := Lib.hid (owns_empty w1 2)
    clear b1 HX HR HL HD HC
    go_wp2
    go_loopw [7, 8] (fun u kv wr => ∃ k : Nat, k ≤ 3 ∧ kv = .int .i64 k ∧ Hid (wr.ownsRow w1.heap.size 2 1 u k (ivs (rgL r k))) ∧ Hid (Below w1.heap.size w1 wr)) (fun _ kv _ => 4 - (intOf kv).toNat)
    case atStart => exact ⟨0, Nat.zero_le _, rfl, HO1, Lib.hid ((Below.refl _ _).alloc (Nat.le_refl _) _)⟩
    case round =>
      clear HO1
      obtain ⟨k, hk, rfl, HU, HB⟩ := hrel
      obtain ⟨Ao, co, rfl⟩ := owns_slice HU.out
      have hBz := HB.out.size
      by_cases hlt : k < 3
      · have HXr := Lib.hid (HX1.out.below HB.out HX1.out.1)
        obtain ⟨dz, d0, d1⟩ := HD1.out.below HB.out HD1.out.1
        go_wp2_with fail
        clear dz d0 d1
        refine (HN.out _ HXr.out).mono ?_
        rintro e w2 ⟨rfl, b2⟩
        have HB2 := Lib.hid (HB.out.trans (b2.mono HB.out.size))
        have HU2 := Lib.hid (owns_belowS HU.out b2)
        clear b2 HXr HB HU
        go_wp2_with fail
        refine (HW10.out k hlt _ (HX1.out.below HB2.out HX1.out.1) (HR1.out.below HB2.out (Nat.le_refl _))).mono ?_
        rintro e w3 ⟨rfl, b3⟩
        have HB3 := Lib.hid (HB2.out.trans (b3.mono HB2.out.size))
        have HU3 := Lib.hid (owns_belowS HU2.out b3)
        have hz3 := HB3.out.size
        clear b3 HU2 HB2
        have HYS := Lib.hid (rgL_snoc r k)
        have hln := rgL_len r k
        obtain ⟨z, hz⟩ : ∃ z, r k = z := ⟨_, rfl⟩
        rw [hz] at HYS ⊢
        clear hz
        have hXa := Lib.hid ((Below.refl w3.heap.size w3).alloc (Nat.le_refl _) (.cells #[.int .i64 z] 2))
        go_wp2_with (first
          | (at_builtin; refine wpList_append_lies _ (by rfl) _ _ _ (by rfl) w1.heap.size 2 i2 _ 1 8 Tryd.underlying22 hi2 hz0 hz1 hz2 rfl (by omega) _ k (ivs (rgL r k)) (by rfl) (owns_belowS HU3.out hXa.out) ⟨w3.heap.size, 0, none⟩ 1 1 [.int .i64 z] (by rfl) (by rfl) (World.news_of_block (cs := #[.int .i64 z]) (t := 2) (fr := (0, 0)) (heap_alloc_new w3 _)) (fun u hu => by simp at hu; subst hu; rfl) (by omega) (by unfold maxLen; omega) (by omega) (by simp; omega) (w3.heap.size + 1) (by simp) ?_; intro g6 cap6 w6 hown6 hgrow6 hat6 hlt6; have HOW := Lib.hid hown6; have HGR := Lib.hid hgrow6; clear hown6 hgrow6 hat6))
        go_roundw
        case rel =>
          refine ⟨k + 1, by omega, by go_num, Lib.hid ?_, Lib.hid ((HB3.out.trans (hXa.out.mono (by omega))).grown HGR.out (by simp; omega) (fun b e => (HU3.out.lt b e).1))⟩
          rw [HYS.out]
          exact HOW.out
        case measure => simp [intOf]; omega
      · obtain rfl : k = 3 := by omega
        go_wp2
        go_ret2
        refine ⟨Ao, co, rfl, ownS_ivs HU.out (fun i hi => rgL_at r hi) (fun i hi => WalkArith.wf_i64 (by have := HBD.out i hi; omega)) HL1.out.size (by unfold maxLen; omega), HL1.out.trans (HB.out.mono HL1.out.size)⟩
  · have e1 : eaN W H n f x y = 0 := by unfold eaN; rw [if_neg hc]
    rw [e1]
    obtain ⟨q, hq⟩ : ∃ q, codeP W H n f x y = q := ⟨_, rfl⟩
    rw [hq] at HC hc ⊢
    clear hq e1
    go_enter Tryd.func17, Tryd.ntmps17
    go_wp2_with fail
    clear dz d0 d1
    refine (HC.out _ HX.out HR.out).mono ?_
    rintro e w1 ⟨rfl, b1⟩
    have HL1 := Lib.hid (HL.out.trans (b1.mono HL.out.size))
    clear b1
    go_wp2
    go_ret2
    exact ⟨none, 0, rfl, ownS_nil _ _ _ _, HL1.out⟩
set_option maxRecDepth 100000 in
set_option maxHeartbeats 2000000 in
theorem impl_effectsAt (hr : Row .i64 w A n c f) (hT : TabsJ w) : Calls Tryd.prog 18 #[.agg #[.int .i64 W, .int .i64 H, .slice A n c], .agg #[.int .i64 x, .int .i64 y]] w (ListOut 1 (eaN W H n f x y) (eaF W H f x y) (codeP W H n f x y) w.heap.size w) := by
  have hbel : Below w.heap.size w ((w.alloc (.cells #[.int .i64 W, .int .i64 H, .slice A n c] 30)).alloc (.cells #[.int .i64 x, .int .i64 y] 32)) := ((Below.refl _ _).alloc (Nat.le_refl _) _).alloc (by simp) _
  have hX := two_boxes w 30 32 W H A n c x y
  have hd := Dot.new (w.alloc (.cells #[.int .i64 W, .int .i64 H, .slice A n c] 30)) 32 x y
  simp only [World.size_alloc] at hd
  have HR := Lib.hid (hr.below hbel (Nat.le_refl _))
  have HL := Lib.hid hbel
  have HX := Lib.hid hX
  have HD := Lib.hid hd
  have HT := Lib.hid (hT.below hbel hT.1)
  clear hr hbel hX hd hT
  have HC := Lib.hid (fun (w' : World) (hr : Row .i64 w' A n c f) => impl_numberOf w' W H A n c f x y hr)
  obtain ⟨dz, d0, d1⟩ := id HD.out
  obtain ⟨xz, x0, x1', x2'⟩ := id HX.out
  by_cases hc : codeP W H n f x y = 0
  · obtain ⟨hv, hh, he⟩ := code_zero hc
    obtain ⟨hW, hH, hn, -⟩ := validB_yes hv
    obtain ⟨l1, l2⟩ := num_lt hW hH hh he
    obtain ⟨k, hkk⟩ : ∃ k : Nat, numN W x y = (k : Int) := ⟨(numN W x y).toNat, by omega⟩
    have hkn : k < n := by omega
    have hnum : numP W H n f x y = (k : Int) := by unfold numP; rw [if_pos hc, hkk]
    obtain ⟨M, hM⟩ : ∃ M : Nat, (M : Int) = 4 * W * H := ⟨(4 * W * H).toNat, by have := (segs_bd hW hH).1; omega⟩
    have HTO := Lib.hid (fun (w' : World) (hr : Row .i64 w' A n c f) (hT : TabsJ w') => impl_trialOf w' W H A n c f hr hT.2.1 hT.2.2 hv)
    have HO := Lib.hid (fun (w' : World) (F E L T tb : Nat) (lv : Value) (ht : TrX w' W H f n F E M L T tb lv) (hT : TabsJ w') (h1 : 1 ≤ L) (h2 : 0 ≤ L) => trx_outcomes w' W H f n F E M L T tb k lv hv hM ht hT.2.1 hT.2.2 hkn h1 h2)
    have HM := Lib.hid (show (4 * W * H).toNat = M by omega)
    have hbd := fun kd (h : kd < 3) => outK_bd hv k h
    have e1 : eaN W H n f x y = 3 := by unfold eaN; rw [if_pos hc]
    have e2 : eaF W H f x y = outK W H f k := by unfold eaF; rw [hkk, Int.toNat_natCast]
    rw [e1, e2, hc]
    rw [hc, hnum] at HC
    obtain ⟨r, hr⟩ : ∃ r, outK W H f k = r := ⟨_, rfl⟩
    rw [hr] at HO hbd ⊢
    have HBD := Lib.hid hbd
    clear hv hh he hn l1 l2 hkk hc hnum hM hkn e1 e2 hr hbd hW hH
    go_enter Tryd.func18, Tryd.ntmps18
    go_wp2_with fail
    clear dz d0 d1 xz x0 x1' x2'
    refine (HC.out _ HR.out).mono ?_
    rintro e w1 ⟨rfl, b1⟩
    have HX3 := Lib.hid (HX.out.below b1 HX.out.1)
    have HR3 := Lib.hid (HR.out.below b1 (Nat.le_refl _))
    have HT3 := Lib.hid (HT.out.below b1 HT.out.1)
    have HL3 := Lib.hid (HL.out.trans (b1.mono HL.out.size))
    clear b1 HX HR HT HL HD HC
    obtain ⟨xz, x0, x1, x2⟩ := id HX3.out
    go_wp2_with fail
    clear xz x0 x1 x2
    refine (HTO.out _ HR3.out HT3.out).mono ?_
    rintro e w4 ⟨F, E, tb, lv, rfl, ht, b4⟩
    rw [HM.out] at ht
    have HT4 := Lib.hid ht
    have HB4 := Lib.hid b4
    clear ht b4
    go_wp2_with fail
    refine (HO.out _ F E _ _ tb lv HT4.out (HT3.out.below HB4.out HT3.out.1) (by have := HT3.out.1; omega) (by have := HT3.out.1; omega)).mono ?_
    rintro e w5 ⟨rfl, lv', ht', hkx⟩
    have b5 := HB4.out.trans (HT4.out.kx_below hkx)
    rw [nrA3]
    have bN := (Below.refl w5.heap.size w5).alloc (Nat.le_refl _) (.cells #[.int .i64 (r 0), .int .i64 (r 1), .int .i64 (r 2)] 85)
    have HL6 := Lib.hid (HL3.out.trans ((b5.trans (bN.mono b5.size)).mono HL3.out.size))
    have HRW := Lib.hid (World.rowIs_alloc w5 #[.int .i64 (r 0), .int .i64 (r 1), .int .i64 (r 2)] 85 (fun i => .int .i64 (r i)) (fun i hi => nr3_at r hi))
    have HZ5 := Lib.hid (show w.heap.size ≤ w5.heap.size from Nat.le_trans HL3.out.size b5.size)
    clear b5 bN hkx ht' HX3 HR3 HT3 HL3 HT4 HB4 HTO HO
    go_wp2
    go_ret2
    exact ⟨some ⟨w5.heap.size, 0, none⟩, 3, rfl, ownS_row HRW.out (by show 3 ≤ maxLen; unfold maxLen; omega) (fun i hi => WalkArith.wf_i64 (by have := HBD.out i hi; omega)) HZ5.out, HL6.out⟩
  · have e1 : eaN W H n f x y = 0 := by unfold eaN; rw [if_neg hc]
    rw [e1]
    obtain ⟨q, hq⟩ : ∃ q, codeP W H n f x y = q := ⟨_, rfl⟩
    obtain ⟨u, hu⟩ : ∃ u, numP W H n f x y = u := ⟨_, rfl⟩
    rw [hq, hu] at HC
    rw [hq] at hc ⊢
    clear hq e1 hu
    go_enter Tryd.func18, Tryd.ntmps18
    go_wp2_with fail
    clear dz d0 d1 xz x0 x1' x2'
    refine (HC.out _ HR.out).mono ?_
    rintro e w1 ⟨rfl, b1⟩
    have HL1 := Lib.hid (HL.out.trans (b1.mono HL.out.size))
    clear b1
    go_wp2
    go_ret2
    exact ⟨none, 0, rfl, ownS_nil _ _ _ _, HL1.out⟩
end
end Go.Proofs.YtjgclemfehfgiaaDoor.Base
namespace Go.Proofs.YtjgclemfehfgiaaDoor.Base
open Go Go.RowKit
set_option linter.unusedVariables false
set_option linter.unusedSimpArgs false

/-- some change at point k changes the number of curves in the direction s -/
noncomputable def jpQ (s : Int) (W H : Int) (f : Nat → Int) (k i : Nat) : Bool := decide (0 < (outK W H f k i - (cnN W H f : Int)) * s)
noncomputable def jpP (s : Int) (W H : Int) (f : Nat → Int) (k : Nat) : Bool := (List.range 3).any (jpQ s W H f k)
theorem any_snoc (P : Nat → Bool) (j : Nat) : (List.range (j + 1)).any P = ((List.range j).any P || P j) := by rw [List.range_succ, List.any_append]; simp
set_option maxRecDepth 100000 in
set_option maxHeartbeats 4000000 in
theorem spec_l10Points (w : World) (p : Nat) (W H : Int) (A : Option Addr) (n c : Nat) (f : Nat → Int) (s : Int) (hs : s = 1 ∨ s = -1) (hb : Box w p W H A n c) (hr : Row .i64 w A n c f) (hv : validB W H n f = true) :
    Calls Tryd.prog 68 #[.pointer (some ⟨p, 0, none⟩), .int .i64 s] w (PtsL (jpP s W H f) n w) := by
  obtain ⟨hW, hH, hn, -⟩ := validB_yes hv
  have hn1 : n ≤ 112 := by have := (inner_bd hW hH).2; omega
  have hb1 := hb.1
  have hcm := hr.2.1
  have hnc := hr.1
  unfold maxLen at hcm
  have HX := Lib.hid hb
  have HR := Lib.hid hr
  obtain ⟨i2, hi2, hz0, hz1, hz2⟩ := info_parts infoI64
  have HO0 := Lib.hid (owns_empty w 2)
  have HB0 := Lib.hid ((Below.refl w.heap.size w).alloc (Nat.le_refl _) (.cells #[] 2))
  have HCN := Lib.hid (fun (w' : World) (hb : Box w' p W H A n c) (hr : Row .i64 w' A n c f) => spec_l04Count w' p hb hr hv)
  have HW10 := Lib.hid (fun (k : Nat) (hk : k < n) (kd : Nat) (h : kd < 3) (w' : World) (hb : Box w' p W H A n c) (hr : Row .i64 w' A n c f) => spec_with w' p W H A n c f k (kd : Int) hb hr hv hk (by omega) (by omega))
  have hbd := fun k kd (h : kd < 3) => outK_bd hv k h
  have e3 : ∀ k kd : Nat, ((cnN W H (putF f k (kd : Int)) : Nat) : Int) = outK W H f k kd := fun k kd => rfl
  simp only [e3] at HW10
  have hcn := cnN_le hv
  have HQ : Hid (∀ k i, jpQ s W H f k i = decide (0 < (outK W H f k i - (cnN W H f : Int)) * s)) := Lib.hid (fun k i => rfl)
  have HP : Hid (∀ k, jpP s W H f k = (List.range 3).any (jpQ s W H f k)) := Lib.hid (fun k => rfl)
  obtain ⟨now, hnow⟩ : ∃ now, cnN W H f = now := ⟨_, rfl⟩
  obtain ⟨r, hr⟩ : ∃ r, outK W H f = r := ⟨_, rfl⟩
  rw [hnow] at HCN hcn HQ
  rw [hr] at HW10 hbd HQ
  have HBD := Lib.hid hbd
  generalize jpQ s W H f = Q at HQ HP
  generalize jpP s W H f = ok at HP ⊢
  clear hb hr hv hW hH hn hnow e3 hbd
  go_enter Tryd.func68, Tryd.ntmps68
  go_wp2_with fail
  refine (HCN.out _ (HX.out.below HB0.out hb1) (HR.out.below HB0.out (Nat.le_refl _))).mono ?_
  rintro e w1 ⟨rfl, b1⟩
  have HO1 := Lib.hid (owns_belowS HO0.out b1)
  have HB1 := Lib.hid (HB0.out.trans (b1.mono HB0.out.size))
  clear b1 HO0 HB0 HCN
  go_wp2
  go_loopw [5, 7] (fun u kv wr => ∃ k : Nat, k ≤ n ∧ kv = .int .i64 k ∧ Hid (wr.ownsRow w.heap.size 2 1 u (flI ok k).length (ivs (flI ok k))) ∧ Hid (Below w.heap.size w wr)) (fun _ kv _ => 200 - (intOf kv).toNat)
  case atStart => exact ⟨0, Nat.zero_le _, rfl, HO1, HB1⟩
  case round =>
    clear HO1 HB1
    obtain ⟨k, hk, rfl, HU, HB⟩ := hrel
    obtain ⟨Ao, co, rfl⟩ := owns_slice HU.out
    generalize hwo : wr = wo at *
    clear hwo wr
    have hBz := HB.out.size
    have hln := flI_len (ok := ok) k
    have HXr := Lib.hid (HX.out.below HB.out hb1)
    obtain ⟨hp, k0, k1, k2⟩ := id HXr.out
    by_cases hlt : k < n
    · go_wp2
      clear hp k0 k1 k2
      go_loopw [8, 9] (fun fv kv wr => ∃ j : Nat, j ≤ 3 ∧ kv = .int .i64 j ∧ fv = .bool ((List.range j).any (Q k)) ∧ Hid (wr.ownsRow w.heap.size 2 1 (.slice Ao (flI ok k).length co) (flI ok k).length (ivs (flI ok k))) ∧ Hid (Below w.heap.size w wr)) (fun _ kv _ => 4 - (intOf kv).toNat)
      case atStart => exact ⟨0, Nat.zero_le _, rfl, rfl, HU, HB⟩
      case round =>
        clear HU HB HXr hBz
        obtain ⟨j, hj, rfl, rfl, HU, HB⟩ := hrel
        have hBz := HB.out.size
        obtain ⟨v, hv⟩ : ∃ v, (List.range j).any (Q k) = v := ⟨_, rfl⟩
        have HV := Lib.hid hv
        rw [hv]
        clear hv
        by_cases hj3 : j < 3
        · cases v
          · go_wp2_with fail
            refine (HW10.out k hlt j hj3 _ (HX.out.below HB.out hb1) (HR.out.below HB.out (Nat.le_refl _))).mono ?_
            rintro e w3 ⟨rfl, b3⟩
            have HB3 := Lib.hid (HB.out.trans (b3.mono HB.out.size))
            have HU3 := Lib.hid (owns_belowS HU.out b3)
            have hq := HBD.out k j hj3
            have HQk := Lib.hid (HQ.out k j)
            obtain ⟨q, hqe⟩ : ∃ q, r k j = q := ⟨_, rfl⟩
            rw [hqe] at hq HQk ⊢
            clear b3 HB HU hqe
            rcases hs with rfl | rfl
            · go_wp2
              go_roundw
              case rel => exact ⟨j + 1, by omega, by go_num, by rw [any_snoc, HV.out, HQk.out]; simp, HU3, HB3⟩
              case measure => simp [intOf]; omega
            · go_wp2
              go_roundw
              case rel => exact ⟨j + 1, by omega, by go_num, by rw [any_snoc, HV.out, HQk.out]; simp, HU3, HB3⟩
              case measure => simp [intOf]; omega
          · go_wp2
            go_roundw
            case rel => exact ⟨j + 1, by omega, by go_num, by rw [any_snoc, HV.out]; simp, HU, HB⟩
            case measure => simp [intOf]; omega
        · obtain rfl : j = 3 := by omega
          have HVk := Lib.hid ((HP.out k).trans HV.out)
          cases v
          · go_wp2
            go_roundw
            case rel => exact ⟨k + 1, by omega, by go_num, Lib.hid (by rw [flI_no HVk.out]; exact HU.out), HB⟩
            case measure => simp [intOf]; omega
          · have HYS := Lib.hid (flI_yes (ok := ok) (k := k) HVk.out)
            have hXa := Lib.hid ((Below.refl wr.heap.size wr).alloc (Nat.le_refl _) (.cells #[.int .i64 (k : Int)] 2))
            obtain ⟨ln, hlne⟩ : ∃ ln, (flI ok k).length = ln := ⟨_, rfl⟩
            rw [hlne] at HU hln ⊢
            have HLN := Lib.hid hlne
            clear hlne
            go_wp2_with (first
              | (at_builtin; refine wpList_append_lies _ (by rfl) _ _ _ (by rfl) w.heap.size 2 i2 _ 1 8 Tryd.underlying22 hi2 hz0 hz1 hz2 rfl (by omega) _ ln (ivs (flI ok k)) (by rfl) (owns_belowS HU.out hXa.out) ⟨wr.heap.size, 0, none⟩ 1 1 [.int .i64 (k : Int)] (by rfl) (by rfl) (World.news_of_block (cs := #[.int .i64 (k : Int)]) (t := 2) (fr := (0, 0)) (heap_alloc_new wr _)) (fun u hu => by simp at hu; subst hu; rfl) (by omega) (by unfold maxLen; omega) (by omega) (by simp; omega) (wr.heap.size + 1) (by simp) ?_; intro g6 cap6 w6 hown6 hgrow6 hat6 hlt6; have HOW := Lib.hid hown6; have HGR := Lib.hid hgrow6; clear hown6 hgrow6 hat6))
            go_roundw
            case rel =>
              refine ⟨k + 1, by omega, by go_num, Lib.hid ?_, Lib.hid ((HB.out.trans (hXa.out.mono (by omega))).grown HGR.out (by simp; omega) (fun b e => (HU.out.lt b e).1))⟩
              have e : ivs (flI ok (k + 1)) = ivs (flI ok k) ++ [.int .i64 (k : Int)] := by rw [HYS.out]; unfold ivs; simp
              have e2 : (flI ok (k + 1)).length = ln + 1 := by rw [HYS.out, List.length_append, HLN.out]; rfl
              rw [e, e2]
              exact HOW.out
            case measure => simp [intOf]; omega
    · obtain rfl : k = n := by omega
      go_wp2
      go_ret
      exact ⟨Ao, co, rfl, HU.out, HB.out⟩
noncomputable def jpN (s : Int) (W H : Int) (n : Nat) (f : Nat → Int) : Nat := if validB W H n f then (flI (jpP s W H f) n).length else 0
noncomputable def jpF (s : Int) (W H : Int) (n : Nat) (f : Nat → Int) : Nat → Int := flF (jpP s W H f) n
theorem jpN_le (s : Int) (W H : Int) (n : Nat) (f : Nat → Int) : jpN s W H n f ≤ n := by
  unfold jpN
  split
  · exact flI_len n
  · omega
theorem spec_joiningPoints (w : World) (W H : Int) (A : Option Addr) (n c : Nat) (f : Nat → Int) (hr : Row .i64 w A n c f) :
    Calls Tryd.prog 23 #[.agg #[.int .i64 W, .int .i64 H, .slice A n c]] w (ListOut 1 (jpN (-1) W H n f) (jpF (-1) W H n f) (okC W H n f) w.heap.size w) := by
  have HL := Lib.hid (show Below w.heap.size w (w.alloc (.cells #[.int .i64 W, .int .i64 H, .slice A n c] 30)) from (Below.refl _ _).alloc (Nat.le_refl _) _)
  have HR := Lib.hid hr
  clear hr
  cases hv : validB W H n f
  · have e1 : jpN (-1) W H n f = 0 := by simp [jpN, hv]
    rw [e1, (segN_no hv).2]
    have HV := Lib.hid hv
    clear hv e1
    go_enter Tryd.func23, Tryd.ntmps23
    go_wp2_with fail
    refine (specOk_is HV.out (Box.new w _ W H A n c) (HR.out.below HL.out (Nat.le_refl _))).mono ?_
    rintro e w1 ⟨m, rfl, rfl⟩
    go_wp2
    go_ret2
    exact ⟨none, 0, rfl, ownS_nil _ _ _ _, below_drewN HL.out m⟩
  · have e1 : jpN (-1) W H n f = (flI (jpP (-1) W H f) n).length := by simp [jpN, hv]
    rw [e1, (segN_yes hv).2]
    obtain ⟨hW, hH, hn, -⟩ := validB_yes hv
    have hn1 : n ≤ 112 := by have := (inner_bd hW hH).2; omega
    have HV := Lib.hid hv
    clear hv e1 hW hH hn
    go_enter Tryd.func23, Tryd.ntmps23
    go_wp2_with fail
    refine (specOk_is HV.out (Box.new w _ W H A n c) (HR.out.below HL.out (Nat.le_refl _))).mono ?_
    rintro e w1 ⟨m, rfl, rfl⟩
    have HB := Lib.hid (below_drewN HL.out m)
    have HX := Lib.hid ((Box.new w 30 W H A n c).below (below_drewN (Below.refl (w.alloc (.cells #[.int .i64 W, .int .i64 H, .slice A n c] 30)).heap.size (w.alloc (.cells #[.int .i64 W, .int .i64 H, .slice A n c] 30))) m) (by simp))
    go_wp2_with fail
    refine (spec_l10Points _ w.heap.size W H A n c f (-1) (by decide) HX.out (HR.out.below HB.out (Nat.le_refl _)) HV.out).mono ?_
    rintro e w2 ⟨Ao, co, rfl, ho, b2⟩
    have HO := Lib.hid ho
    have HB2 := Lib.hid (HB.out.trans (b2.mono HB.out.size))
    clear ho b2
    go_wp2
    go_ret2
    exact ⟨Ao, co, rfl, fl_own (by omega) HO.out HB.out.size, HB2.out⟩
theorem spec_dividingPoints (w : World) (W H : Int) (A : Option Addr) (n c : Nat) (f : Nat → Int) (hr : Row .i64 w A n c f) :
    Calls Tryd.prog 25 #[.agg #[.int .i64 W, .int .i64 H, .slice A n c]] w (ListOut 1 (jpN (1) W H n f) (jpF (1) W H n f) (okC W H n f) w.heap.size w) := by
  have HL := Lib.hid (show Below w.heap.size w (w.alloc (.cells #[.int .i64 W, .int .i64 H, .slice A n c] 30)) from (Below.refl _ _).alloc (Nat.le_refl _) _)
  have HR := Lib.hid hr
  clear hr
  cases hv : validB W H n f
  · have e1 : jpN (1) W H n f = 0 := by simp [jpN, hv]
    rw [e1, (segN_no hv).2]
    have HV := Lib.hid hv
    clear hv e1
    go_enter Tryd.func25, Tryd.ntmps25
    go_wp2_with fail
    refine (specOk_is HV.out (Box.new w _ W H A n c) (HR.out.below HL.out (Nat.le_refl _))).mono ?_
    rintro e w1 ⟨m, rfl, rfl⟩
    go_wp2
    go_ret2
    exact ⟨none, 0, rfl, ownS_nil _ _ _ _, below_drewN HL.out m⟩
  · have e1 : jpN (1) W H n f = (flI (jpP (1) W H f) n).length := by simp [jpN, hv]
    rw [e1, (segN_yes hv).2]
    obtain ⟨hW, hH, hn, -⟩ := validB_yes hv
    have hn1 : n ≤ 112 := by have := (inner_bd hW hH).2; omega
    have HV := Lib.hid hv
    clear hv e1 hW hH hn
    go_enter Tryd.func25, Tryd.ntmps25
    go_wp2_with fail
    refine (specOk_is HV.out (Box.new w _ W H A n c) (HR.out.below HL.out (Nat.le_refl _))).mono ?_
    rintro e w1 ⟨m, rfl, rfl⟩
    have HB := Lib.hid (below_drewN HL.out m)
    have HX := Lib.hid ((Box.new w 30 W H A n c).below (below_drewN (Below.refl (w.alloc (.cells #[.int .i64 W, .int .i64 H, .slice A n c] 30)).heap.size (w.alloc (.cells #[.int .i64 W, .int .i64 H, .slice A n c] 30))) m) (by simp))
    go_wp2_with fail
    refine (spec_l10Points _ w.heap.size W H A n c f (1) (by decide) HX.out (HR.out.below HB.out (Nat.le_refl _)) HV.out).mono ?_
    rintro e w2 ⟨Ao, co, rfl, ho, b2⟩
    have HO := Lib.hid ho
    have HB2 := Lib.hid (HB.out.trans (b2.mono HB.out.size))
    clear ho b2
    go_wp2
    go_ret2
    exact ⟨Ao, co, rfl, fl_own (by omega) HO.out HB.out.size, HB2.out⟩
theorem lib_indexJ (w : World) (A : Option Addr) (q cq : Nat) (cs : Nat → Int) (b3 bn bk : Nat) (P : Nat → Bool) (hr : Row .i64 w A q cq cs) (hq : q ≤ 1000000)
    (HC : Hid (∀ i, i < q → ∀ w', Below w.heap.size w w' → Calls Tryd.prog 123 #[.int .i64 (cs i), .pointer (some ⟨b3, 0, none⟩), .pointer (some ⟨bn, 0, none⟩), .pointer (some ⟨bk, 0, none⟩)] w' (Gives (.bool (P i)) w'))) :
    Calls Tryd.prog 162 #[.slice A q cq, .func (.func 123) #[] #[.pointer (some ⟨b3, 0, none⟩), .pointer (some ⟨bn, 0, none⟩), .pointer (some ⟨bk, 0, none⟩)]] w (fun e w' => ∃ r : Int, e = .returned (.int .i64 r) ∧ decide (0 ≤ r) = (List.range q).any P ∧ Below w.heap.size w w') := by
  have HR := Lib.hid hr
  have hcm := hr.2.1
  have hnc := hr.1
  unfold maxLen at hcm
  clear hr
  go_enter Tryd.func162, Tryd.ntmps162
  go_wp2
  go_loopw [8] (fun iv wr => ∃ k : Nat, k ≤ q ∧ iv = .int .i64 (k : Int) ∧ Hid (∀ i, i < k → P i = false) ∧ Hid (Below w.heap.size w wr)) (fun iv _ => q - (intOf iv).toNat)
  case atStart => exact ⟨0, Nat.zero_le _, rfl, Lib.hid (fun i h => absurd h (Nat.not_lt_zero _)), Lib.hid (Below.refl _ _)⟩
  case round =>
    obtain ⟨k, hk, rfl, HN, HB⟩ := hrel
    by_cases hlt : k < q
    · obtain ⟨b, o, rfl, hbl, hc⟩ := (HR.out.below HB.out (Nat.le_refl _)).2.2.2 (by omega)
      have hck := hc k hlt
      have HCk := Lib.hid (HC.out k hlt wr HB.out)
      obtain ⟨v, hv⟩ : ∃ v, P k = v := ⟨_, rfl⟩
      rw [hv] at HCk
      have HV := Lib.hid hv
      clear hc hv
      go_wp2_with fail
      refine HCk.out.mono ?_
      rintro e w2 ⟨rfl, b2⟩
      have HB2 := Lib.hid (HB.out.trans (b2.mono HB.out.size))
      clear b2 HCk
      cases v
      · go_wp2
        go_roundw
        case rel =>
          refine ⟨k + 1, by omega, by go_num, Lib.hid (fun i hi => ?_), HB2⟩
          rcases Nat.lt_succ_iff_lt_or_eq.1 hi with h | rfl
          · exact HN.out i h
          · exact HV.out
        case measure => simp [intOf]; omega
      · have HT : Hid ((List.range q).any P = true) := Lib.hid (List.any_eq_true.2 ⟨k, List.mem_range.2 hlt, HV.out⟩)
        go_wp2
        go_ret
        exact ⟨(k : Int), rfl, by rw [HT.out]; simp, HB2.out⟩
    · obtain rfl : k = q := by omega
      have HT : Hid ((List.range k).any P = false) := Lib.hid (List.any_eq_false.2 (fun x hx => by rw [HN.out x (List.mem_range.1 hx)]; simp))
      go_wp2
      go_ret
      exact ⟨-1, rfl, by rw [HT.out]; rfl, HB.out⟩
theorem lib_containsJ (w : World) (A : Option Addr) (q cq : Nat) (cs : Nat → Int) (b3 bn bk : Nat) (P : Nat → Bool) (v : Bool) (hr : Row .i64 w A q cq cs) (hq : q ≤ 1000000)
    (HC : Hid (∀ i, i < q → ∀ w', Below w.heap.size w w' → Calls Tryd.prog 123 #[.int .i64 (cs i), .pointer (some ⟨b3, 0, none⟩), .pointer (some ⟨bn, 0, none⟩), .pointer (some ⟨bk, 0, none⟩)] w' (Gives (.bool (P i)) w'))) (hv : (List.range q).any P = v) :
    Calls Tryd.prog 122 #[.slice A q cq, .func (.func 123) #[] #[.pointer (some ⟨b3, 0, none⟩), .pointer (some ⟨bn, 0, none⟩), .pointer (some ⟨bk, 0, none⟩)]] w (Gives (.bool v) w) := by
  have HX := Lib.hid (lib_indexJ w A q cq cs b3 bn bk P hr hq HC)
  have HV := Lib.hid hv
  clear hr hv
  go_enter Tryd.func122, Tryd.ntmps122
  go_wp2_with fail
  refine HX.out.mono ?_
  rintro e w1 ⟨r, rfl, hd, b1⟩
  rw [HV.out] at hd
  clear HV HX HC
  cases v
  · have hr := of_decide_eq_false hd
    go_wp2
    go_ret
    exact ⟨ret_bool (by first | (simp; done) | (simp; omega)), b1⟩
  · have hr := of_decide_eq_true hd
    go_wp2
    go_ret
    exact ⟨ret_bool (by first | (simp; done) | (simp; omega)), b1⟩
theorem gof_joiningPoints (x y : Int) (w : World) : Calls Tryd.prog 70 #[.int .i64 x, .int .i64 y] w fun e w' => e = .returned (.bool (decide (x < y))) ∧ w = w' := by
  go_enter Tryd.func70, Tryd.ntmps70
  go_wp2
  go_ret
  exact ⟨rfl, rfl⟩
set_option maxHeartbeats 1000000 in
theorem clo_joiningPoints (w : World) (b3 bn bk fk : Nat) (r : Nat → Int) (x : Int) (hf : fk < 3) (h3 : At w b3 #[.func (.func 70) #[] #[]] 96) (hn : At w bn #[.int .i64 (r 0), .int .i64 (r 1), .int .i64 (r 2)] 85) (hk : At w bk #[.int .i64 (fk : Int)] 2) :
    Calls Tryd.prog 123 #[.int .i64 x, .pointer (some ⟨b3, 0, none⟩), .pointer (some ⟨bn, 0, none⟩), .pointer (some ⟨bk, 0, none⟩)] w (Gives (.bool (decide (x < r fk))) w) := by
  have x3 := h3.cellv (i := 0) rfl
  have z3 := h3.lt
  have xn := hn.cellv (i := fk) (nr3_at r hf)
  have zn := hn.lt
  have xk := hk.cellv (i := 0) rfl
  have zk := hk.lt
  have e1 : (fk : Int) < 3 := by omega
  have e2 : (0 : Int) ≤ (fk : Int) := by omega
  generalize r fk = y at *
  clear h3 hn hk hf
  go_enter Tryd.func123, Tryd.ntmps123
  go_wp2
  go_quiet (first | (go_at_call 70; with_reducible exact quiet_left (gof_joiningPoints _ _ _)))
  go_wp2
  go_ret
  exact ⟨rfl, below_drewN (Below.refl _ _) _⟩
set_option maxRecDepth 100000 in
set_option maxHeartbeats 4000000 in
theorem impl_pw_joiningPoints (w : World) (W H : Int) (A : Option Addr) (n c : Nat) (f : Nat → Int) (hr : Row .i64 w A n c f) (hT : TabsJ w) :
    Calls Tryd.prog 69 #[.agg #[.int .i64 W, .int .i64 H, .slice A n c], .func (.func 70) #[] #[]] w (ListOut 1 (jpN (-1) W H n f) (jpF (-1) W H n f) (okC W H n f) w.heap.size w) := by
  have hbel : Below w.heap.size w ((w.alloc (.cells #[.int .i64 W, .int .i64 H, .slice A n c] 30)).alloc (.cells #[.func (.func 70) #[] #[]] 96)) := ((Below.refl _ _).alloc (Nat.le_refl _) _).alloc (by simp) _
  have HX := Lib.hid ((Box.new w 30 W H A n c).below ((Below.refl _ _).alloc (Nat.le_refl _) (.cells #[.func (.func 70) #[] #[]] 96)) (by simp))
  have HF := Lib.hid (show At ((w.alloc (.cells #[.int .i64 W, .int .i64 H, .slice A n c] 30)).alloc (.cells #[.func (.func 70) #[] #[]] 96)) (w.heap.size + 1) #[.func (.func 70) #[] #[]] 96 from At.newAt (by simp))
  have HR := Lib.hid (hr.below hbel (Nat.le_refl _))
  have HT := Lib.hid (hT.below hbel hT.1)
  have HL := Lib.hid hbel
  have hcm := hr.2.1
  have hnc := hr.1
  unfold maxLen at hcm
  clear hr hT hbel
  cases hv : validB W H n f
  · have e1 : jpN (-1) W H n f = 0 := by simp [jpN, hv]
    rw [e1, (segN_no hv).2]
    have HV := Lib.hid hv
    obtain ⟨xz, x0, x1, x2⟩ := id HX.out
    clear hv e1
    go_enter Tryd.func69, Tryd.ntmps69
    go_wp2_with fail
    refine (implOk_is HV.out HR.out).mono ?_
    rintro e w1 ⟨rfl, b1⟩
    have HL1 := Lib.hid (HL.out.trans (b1.mono HL.out.size))
    clear b1
    go_wp2
    go_ret2
    exact ⟨none, 0, rfl, ownS_nil _ _ _ _, HL1.out⟩
  · have e1 : jpN (-1) W H n f = (flI (jpP (-1) W H f) n).length := by simp [jpN, hv]
    rw [e1, (segN_yes hv).2]
    obtain ⟨hW, hH, hn, hK⟩ := validB_yes hv
    have hn1 : n ≤ 112 := by have := (inner_bd hW hH).2; omega
    obtain ⟨M, hM⟩ : ∃ M : Nat, (M : Int) = 4 * W * H := ⟨(4 * W * H).toNat, by have := (segs_bd hW hH).1; omega⟩
    have HV := Lib.hid hv
    have HTO := Lib.hid (fun (w' : World) (hr : Row .i64 w' A n c f) (hT : TabsJ w') => impl_trialOf w' W H A n c f hr hT.2.1 hT.2.2 hv)
    have HO := Lib.hid (fun (k : Nat) (hk : k < n) (w' : World) (F E L T tb : Nat) (lv : Value) (ht : TrX w' W H f n F E M L T tb lv) (hT : TabsJ w') (h1 : max 0 1 ≤ L) => trx_outcomes w' W H f n F E M L T tb k lv hv hM ht hT.2.1 hT.2.2 hk (by omega) (by omega))
    have HM := Lib.hid (show (4 * W * H).toNat = M by omega)
    have HP : Hid (∀ k, k < n → ∀ fk : Nat, f k = (fk : Int) → jpP (-1) W H f k = (List.range 3).any (fun i => decide (outK W H f k i < outK W H f k fk))) := Lib.hid (fun k hk fk e => by
      unfold jpP jpQ
      have h0 : outK W H f k fk = (cnN W H f : Int) := by unfold outK; rw [← e, put_same]
      rw [h0]
      refine congrArg (List.any (List.range 3)) (funext fun i => ?_)
      exact decide_eq_decide.2 (by omega))
    have HFK : Hid (∀ k, k < n → ∃ fk : Nat, f k = (fk : Int) ∧ fk < 3) := Lib.hid (fun k hk => ⟨(f k).toNat, by have := kinds_iff.1 hK k hk; omega, by have := kinds_iff.1 hK k hk; omega⟩)
    have HBD : Hid (∀ k i, i < 3 → (Lit.int .i64 (outK W H f k i)).wf = true) := Lib.hid (fun k i hi => WalkArith.wf_i64 (by have := outK_bd hv k hi; omega))
    obtain ⟨R, hR⟩ : ∃ R, outK W H f = R := ⟨_, rfl⟩
    rw [hR] at HO HP HBD
    obtain ⟨i2, hi2, hz0, hz1, hz2⟩ := info_parts infoI64
    generalize hok : jpP (-1) W H f = ok at HP ⊢
    have HOKE := Lib.hid (show jpF (-1) W H n f = flF ok n by unfold jpF; rw [hok])
    obtain ⟨xz, x0, x1, x2⟩ := id HX.out
    clear hv hW hH hn hK hM hR hok e1
    go_enter Tryd.func69, Tryd.ntmps69
    go_wp2_with fail
    clear xz x0 x1 x2
    refine (implOk_is HV.out HR.out).mono ?_
    rintro e w3 ⟨rfl, b1⟩
    have HX3 := Lib.hid (HX.out.below b1 HX.out.1)
    have HF3 := Lib.hid (HF.out.below b1 HF.out.lt)
    have HR3 := Lib.hid (HR.out.below b1 (Nat.le_refl _))
    have HT3 := Lib.hid (HT.out.below b1 HT.out.1)
    have HL3 := Lib.hid (HL.out.trans (b1.mono HL.out.size))
    clear b1 HX HF HR HT HL
    obtain ⟨xz, x0, x1, x2⟩ := id HX3.out
    go_wp2_with fail
    clear xz x0 x1 x2
    refine (HTO.out _ HR3.out HT3.out).mono ?_
    rintro e w4 ⟨F, E, tb, lv, rfl, ht, b4⟩
    rw [HM.out] at ht
    have HT4 := Lib.hid ht
    have HB4 := Lib.hid b4
    have HLV4 := Lib.hid (fun q (hq : lv.ownBlock = some q) => ht.lvs hq)
    have hz4 := b4.size
    clear ht b4
    have bA := (Below.refl w4.heap.size w4).alloc (Nat.le_refl _) (.cells #[.int .i64 W, .int .i64 H, .pointer (some ⟨F, 0, none⟩), .slice (some ⟨tb, 0, none⟩) n n] 89)
    have bB := (Below.refl (w4.alloc (.cells #[.int .i64 W, .int .i64 H, .pointer (some ⟨F, 0, none⟩), .slice (some ⟨tb, 0, none⟩) n n] 89)).heap.size (w4.alloc (.cells #[.int .i64 W, .int .i64 H, .pointer (some ⟨F, 0, none⟩), .slice (some ⟨tb, 0, none⟩) n n] 89))).alloc (Nat.le_refl _) (.cells #[] 2)
    have HTB := Lib.hid ((At.new w4 #[.int .i64 W, .int .i64 H, .pointer (some ⟨F, 0, none⟩), .slice (some ⟨tb, 0, none⟩) n n] 89).below bB (by simp))
    have HTR := Lib.hid ((HT4.out.below bA).below bB)
    have HO6 := Lib.hid (owns_empty (w4.alloc (.cells #[.int .i64 W, .int .i64 H, .pointer (some ⟨F, 0, none⟩), .slice (some ⟨tb, 0, none⟩) n n] 89)) 2)
    have HB6 := Lib.hid (HB4.out.trans ((bA.trans (bB.mono bA.size)).mono hz4))
    have hsz : (w4.alloc (.cells #[.int .i64 W, .int .i64 H, .pointer (some ⟨F, 0, none⟩), .slice (some ⟨tb, 0, none⟩) n n] 89)).heap.size = w4.heap.size + 1 := by simp
    rw [hsz] at HO6
    have hzz : ((w4.alloc (.cells #[.int .i64 W, .int .i64 H, .pointer (some ⟨F, 0, none⟩), .slice (some ⟨tb, 0, none⟩) n n] 89)).alloc (.cells #[] 2)).heap.size = w4.heap.size + 2 := by simp
    clear bA bB HT4 HB4 HTO
    obtain ⟨xz, x0, x1, x2⟩ := HX3.out.below HB6.out HX3.out.1
    go_wp2
    clear xz x0 x1 x2
    generalize (w4.alloc (.cells #[.int .i64 W, .int .i64 H, .pointer (some ⟨F, 0, none⟩), .slice (some ⟨tb, 0, none⟩) n n] 89)).alloc (.cells #[] 2) = w6 at *
    clear hsz
    obtain ⟨TX, hTX⟩ : ∃ TX, w4.heap.size = TX := ⟨_, rfl⟩
    rw [hTX] at HTB HTR HO6 HLV4 hz4 hzz ⊢
    clear hTX
    obtain ⟨L, hL⟩ : ∃ L, w3.heap.size = L := ⟨_, rfl⟩
    have HLE := Lib.hid hL
    rw [hL] at HTR HB6 hz4 HLV4
    clear hL
    go_loopw [7, 20] (fun u iv wr => ∃ (k : Nat) (lv : Value), k ≤ n ∧ iv = .int .i64 (k : Int) ∧ Hid (TrX wr W H f n F E M L TX tb lv) ∧ Hid (∀ q, lv.ownBlock = some q → q ≠ TX ∧ u.ownBlock ≠ some q) ∧ Hid (wr.ownsRow (TX + 1) 2 1 u (flI ok k).length (ivs (flI ok k))) ∧ Hid (At wr TX #[.int .i64 W, .int .i64 H, .pointer (some ⟨F, 0, none⟩), .slice (some ⟨tb, 0, none⟩) n n] 89) ∧ Hid (Below L w3 wr) ∧ TX + 2 ≤ wr.heap.size) (fun _ iv _ => 200 - (intOf iv).toNat)
    case atStart => exact ⟨0, lv, Nat.zero_le _, rfl, HTR, Lib.hid (fun q hq => ⟨by have := HLV4.out q hq; omega, fun e => by have := HLV4.out q hq; have := HO6.out.lt q e; omega⟩), HO6, HTB, HB6, by omega⟩
    case round =>
      clear HTR HO6 HTB HB6 HLV4 hzz
      obtain ⟨k, lv1, hk, rfl, HTR, HLV, HU, HTB, HB, hzr⟩ := hrel
      obtain ⟨Ao, co, rfl⟩ := owns_slice HU.out
      have hln := flI_len (ok := ok) k
      by_cases hlt : k < n
      · obtain ⟨fk, hfk, hf3⟩ := HFK.out k hlt
        have HPk := Lib.hid (HP.out k hlt fk hfk)
        have hLz : L = w3.heap.size := HLE.out.symm
        obtain ⟨b, o, e, hbl, hc⟩ := (HR3.out.below HB.out (by omega)).2.2.2 (by omega)
        subst e
        have hck := hc k hlt
        rw [hfk] at hck
        have t0 : wr.cell? ⟨TX, 0, none⟩ = some (.int .i64 W) := HTB.out.cellv (i := 0) rfl
        have t1 : wr.cell? ⟨TX, 1, none⟩ = some (.int .i64 H) := HTB.out.cellv (i := 1) rfl
        have t2 : wr.cell? ⟨TX, 2, none⟩ = some (.pointer (some ⟨F, 0, none⟩)) := HTB.out.cellv (i := 2) rfl
        have t3 : wr.cell? ⟨TX, 3, none⟩ = some (.slice (some ⟨tb, 0, none⟩) n n) := HTB.out.cellv (i := 3) rfl
        have tz := HTB.out.lt
        have bK := (Below.refl wr.heap.size wr).alloc (Nat.le_refl _) (.cells #[.int .i64 (fk : Int)] 2)
        have HTRa := Lib.hid (HTR.out.below bK)
        have HBa := Lib.hid (HB.out.trans (bK.mono (by have := HB.out.size; omega)))
        have HTBa := Lib.hid (HTB.out.below bK HTB.out.lt)
        have HUa := Lib.hid (owns_belowS HU.out bK)
        have HKa := Lib.hid (At.new wr #[.int .i64 (fk : Int)] 2)
        have HLs : Hid (∀ q, lv1.ownBlock = some q → q < wr.heap.size) := Lib.hid (fun q hq => (HTR.out.lvs hq).2)
        have HUs : Hid (∀ q, (Value.slice Ao (flI ok k).length co).ownBlock = some q → TX + 1 ≤ q ∧ q < wr.heap.size) := Lib.hid (fun q hq => HU.out.lt q hq)
        have hza : (wr.alloc (.cells #[.int .i64 (fk : Int)] 2)).heap.size = wr.heap.size + 1 := by simp
        clear hc hfk bK HTR HB HTB HU
        go_wp2_with fail
        clear t0 t1 t2 t3 tz hck
        generalize wr.alloc (.cells #[.int .i64 (fk : Int)] 2) = wa at *
        obtain ⟨bk, hbk⟩ : ∃ bk, wr.heap.size = bk := ⟨_, rfl⟩
        rw [hbk] at HKa HLs HUs hza hzr ⊢
        clear hbk
        refine (HO.out k hlt wa F E _ _ tb lv1 HTRa.out (HT3.out.below HBa.out (by have := HT3.out.1; omega)) (by have := HT3.out.1; omega)).mono ?_
        rintro e wb ⟨rfl, lv2, ht2, hkx⟩
        rw [nrA3]
        have hfe := HTRa.out.fe
        have hTl := HTRa.out.lt
        have hzb := hkx.size
        have HTRb := Lib.hid ht2
        have HBb := Lib.hid (HBa.out.trans (HTRa.out.kx_below hkx))
        have HTBb := Lib.hid (hkx.at_ HTBa.out (by simp; omega) (fun e => (HLV.out _ e).1 rfl))
        have HKb := Lib.hid (hkx.at_ HKa.out (by simp; omega) (fun e => by have := HLs.out _ e; omega))
        have HUb := Lib.hid (owns_block HUa.out (fun q hq => hkx.block q (by have := HUs.out q hq; omega) (by have := HUs.out q hq; simp; omega) (fun e => (HLV.out q e).2 hq)))
        have HLVb : Hid (∀ q, lv2.ownBlock = some q → q ≠ TX ∧ (Value.slice Ao (flI ok k).length co).ownBlock ≠ some q) := Lib.hid (fun q hq => by
          rcases hkx.own q hq with h | h
          · exact HLV.out q h
          · exact ⟨by omega, fun e => by have := HUs.out q e; omega⟩)
        obtain ⟨r, hre⟩ : ∃ r, R k = r := ⟨_, rfl⟩
        have HBk := Lib.hid (HBD.out k)
        rw [hre] at HPk HBk ⊢
        clear ht2 hkx HTRa HBa HTBa HKa HUa HLV hre
        have bN := (Below.refl wb.heap.size wb).alloc (Nat.le_refl _) (.cells #[.int .i64 (r 0), .int .i64 (r 1), .int .i64 (r 2)] 85)
        have HTRc := Lib.hid (HTRb.out.below bN)
        have HBc := Lib.hid (HBb.out.trans (bN.mono (by have := HBb.out.size; omega)))
        have HTBc := Lib.hid (HTBb.out.below bN HTBb.out.lt)
        have HKc := Lib.hid (HKb.out.below bN HKb.out.lt)
        have HUc := Lib.hid (owns_belowS HUb.out bN)
        have HNc := Lib.hid (At.new wb #[.int .i64 (r 0), .int .i64 (r 1), .int .i64 (r 2)] 85)
        have HRc := Lib.hid (World.rowIs_alloc wb #[.int .i64 (r 0), .int .i64 (r 1), .int .i64 (r 2)] 85 (fun i => .int .i64 (r i)) (fun i hi => nr3_at r hi))
        have hzc : (wb.alloc (.cells #[.int .i64 (r 0), .int .i64 (r 1), .int .i64 (r 2)] 85)).heap.size = wb.heap.size + 1 := by simp
        have hnz := HNc.out.lt
        clear bN HTRb HBb HTBb HKb HUb
        go_wp2_with fail
        generalize wb.alloc (.cells #[.int .i64 (r 0), .int .i64 (r 1), .int .i64 (r 2)] 85) = wc at *
        obtain ⟨bn, hbn⟩ : ∃ bn, wb.heap.size = bn := ⟨_, rfl⟩
        rw [hbn] at HNc HRc hzc hnz hzb ⊢
        clear hbn
        have HFc := Lib.hid (HF3.out.below HBc.out (by have := HF3.out.lt; omega))
        obtain ⟨v, hv⟩ : ∃ v, ok k = v := ⟨_, rfl⟩
        have HVv := Lib.hid hv
        refine (lib_containsJ wc (some ⟨bn, 0, none⟩) 3 3 r (w.heap.size + 1) bn bk _ v ((ownRow_of (base := bn) HRc.out (by show 3 ≤ maxLen; unfold maxLen; omega) (fun i hi => HBk.out i hi) (Nat.le_refl _)).row) (by omega)
          (Lib.hid (fun i hi w' b => clo_joiningPoints w' (w.heap.size + 1) bn bk fk r (r i) hf3 (HFc.out.below b HFc.out.lt) (HNc.out.below b HNc.out.lt) (HKc.out.below b HKc.out.lt))) (HPk.out.symm.trans hv)).mono ?_
        rintro e wd ⟨rfl, bd⟩
        have HTRd := Lib.hid (HTRc.out.below bd)
        have HBd := Lib.hid (HBc.out.trans (bd.mono (by have := HBc.out.size; omega)))
        have HTBd := Lib.hid (HTBc.out.below bd HTBc.out.lt)
        have HUd := Lib.hid (owns_belowS HUc.out bd)
        have hzd := bd.size
        clear bd HTRc HBc HTBc HUc HKc HNc HRc HFc hv hnz
        cases v
        · go_wp2
          go_roundw
          case rel => exact ⟨k + 1, lv2, by omega, by go_num, HTRd, HLVb, Lib.hid (by rw [flI_no HVv.out]; exact HUd.out), HTBd, HBd, by omega⟩
          case measure => simp [intOf]; omega
        · have HYS := Lib.hid (flI_yes (ok := ok) (k := k) HVv.out)
          have hXa := Lib.hid ((Below.refl wd.heap.size wd).alloc (Nat.le_refl _) (.cells #[.int .i64 (k : Int)] 2))
          obtain ⟨ln, hlne⟩ : ∃ ln, (flI ok k).length = ln := ⟨_, rfl⟩
          rw [hlne] at HUd HUs HLVb hln ⊢
          have HLN := Lib.hid hlne
          clear hlne
          have hza2 : (wd.alloc (.cells #[.int .i64 (k : Int)] 2)).heap.size = wd.heap.size + 1 := by simp
          go_wp2_with (first
            | (at_builtin; refine wpList_append_lies _ (by rfl) _ _ _ (by rfl) (TX + 1) 2 i2 _ 1 8 Tryd.underlying22 hi2 hz0 hz1 hz2 rfl (by omega) _ ln (ivs (flI ok k)) (by rfl) (owns_belowS HUd.out hXa.out) ⟨wd.heap.size, 0, none⟩ 1 1 [.int .i64 (k : Int)] (by rfl) (by rfl) (World.news_of_block (cs := #[.int .i64 (k : Int)]) (t := 2) (fr := (0, 0)) (heap_alloc_new wd _)) (fun u hu => by simp at hu; subst hu; rfl) (by omega) (by unfold maxLen; omega) (by omega) (by simp; omega) (wd.heap.size + 1) (by simp) ?_; intro g6 cap6 w9 hown6 hgrow6 hat6 hlt6; have HOW := Lib.hid hown6; have HGR := Lib.hid hgrow6; have HAT := Lib.hid hat6; clear hown6 hgrow6 hat6))
          have HTRe := Lib.hid (HTRd.out.below hXa.out)
          have hTz := HTRd.out.lt
          have hgz := HGR.out.size
          go_roundw
          case rel =>
            refine ⟨k + 1, lv2, by omega, by go_num, Lib.hid (HTRe.out.keep (fun b hb => HGR.out.block b (by omega) (fun e => by have := HUs.out b e.symm; omega)) (fun q hq => HGR.out.block q (by have := (HTRe.out.lvs hq).2; omega) (fun e => (HLVb.out q hq).2 e.symm)) (by omega)), Lib.hid (fun q hq => ⟨(HLVb.out q hq).1, fun e => ?_⟩), Lib.hid ?_, Lib.hid ((HTBd.out.below hXa.out HTBd.out.lt).of_block (HGR.out.block TX (by have := HTBd.out.lt; omega) (fun e => by have := HUs.out TX e.symm; omega))), Lib.hid ((HBd.out.trans (hXa.out.mono (by have := HBd.out.size; omega))).grown HGR.out (by have := HBd.out.size; omega) (fun b e => by have := HUs.out b e; omega)), by omega⟩
            · have hqz := (HTRd.out.lvs hq).2
              have e' : g6 = q := by simpa [Value.ownBlock] using e
              rcases HAT.out with h | h
              · exact (HLVb.out q hq).2 (by rw [h, e'])
              · omega
            · have e : ivs (flI ok (k + 1)) = ivs (flI ok k) ++ [.int .i64 (k : Int)] := by rw [HYS.out]; unfold ivs; simp
              have e2 : (flI ok (k + 1)).length = ln + 1 := by rw [HYS.out, List.length_append, HLN.out]; rfl
              rw [e, e2]
              exact HOW.out
          case measure => simp [intOf]; omega
      · obtain rfl : k = n := by omega
        have hLz : L = w3.heap.size := HLE.out.symm
        go_wp2
        go_ret2
        rw [HOKE.out]
        exact ⟨Ao, co, rfl, fl_own (by omega) HU.out (by have := HL3.out.size; omega), HL3.out.trans (HB.out.mono (by have := HL3.out.size; omega))⟩
theorem impl_joiningPoints (w : World) (W H : Int) (A : Option Addr) (n c : Nat) (f : Nat → Int) (hr : Row .i64 w A n c f) (hT : TabsJ w) :
    Calls Tryd.prog 24 #[.agg #[.int .i64 W, .int .i64 H, .slice A n c]] w (ListOut 1 (jpN (-1) W H n f) (jpF (-1) W H n f) (okC W H n f) w.heap.size w) := by
  have hbel : Below w.heap.size w (w.alloc (.cells #[.int .i64 W, .int .i64 H, .slice A n c] 30)) := (Below.refl _ _).alloc (Nat.le_refl _) _
  have HC := Lib.hid (impl_pw_joiningPoints _ W H A n c f (hr.below hbel (Nat.le_refl _)) (hT.below hbel hT.1))
  have HL := Lib.hid hbel
  clear hr hT hbel
  go_enter Tryd.func24, Tryd.ntmps24
  go_wp2_with fail
  refine HC.out.mono ?_
  rintro e w1 ⟨A5, c5, rfl, ho, b1⟩
  have HO := Lib.hid ho
  have HL1 := Lib.hid (HL.out.trans (b1.mono HL.out.size))
  clear ho b1
  go_wp2
  go_ret2
  exact ⟨A5, c5, rfl, ownS_lower HO.out HL.out.size, HL1.out⟩
theorem gof_dividingPoints (x y : Int) (w : World) : Calls Tryd.prog 71 #[.int .i64 x, .int .i64 y] w fun e w' => e = .returned (.bool (decide (x > y))) ∧ w = w' := by
  go_enter Tryd.func71, Tryd.ntmps71
  go_wp2
  go_ret
  exact ⟨rfl, rfl⟩
set_option maxHeartbeats 1000000 in
theorem clo_dividingPoints (w : World) (b3 bn bk fk : Nat) (r : Nat → Int) (x : Int) (hf : fk < 3) (h3 : At w b3 #[.func (.func 71) #[] #[]] 96) (hn : At w bn #[.int .i64 (r 0), .int .i64 (r 1), .int .i64 (r 2)] 85) (hk : At w bk #[.int .i64 (fk : Int)] 2) :
    Calls Tryd.prog 123 #[.int .i64 x, .pointer (some ⟨b3, 0, none⟩), .pointer (some ⟨bn, 0, none⟩), .pointer (some ⟨bk, 0, none⟩)] w (Gives (.bool (decide (x > r fk))) w) := by
  have x3 := h3.cellv (i := 0) rfl
  have z3 := h3.lt
  have xn := hn.cellv (i := fk) (nr3_at r hf)
  have zn := hn.lt
  have xk := hk.cellv (i := 0) rfl
  have zk := hk.lt
  have e1 : (fk : Int) < 3 := by omega
  have e2 : (0 : Int) ≤ (fk : Int) := by omega
  generalize r fk = y at *
  clear h3 hn hk hf
  go_enter Tryd.func123, Tryd.ntmps123
  go_wp2
  go_quiet (first | (go_at_call 71; with_reducible exact quiet_left (gof_dividingPoints _ _ _)))
  go_wp2
  go_ret
  exact ⟨rfl, below_drewN (Below.refl _ _) _⟩
set_option maxRecDepth 100000 in
set_option maxHeartbeats 4000000 in
theorem impl_pw_dividingPoints (w : World) (W H : Int) (A : Option Addr) (n c : Nat) (f : Nat → Int) (hr : Row .i64 w A n c f) (hT : TabsJ w) :
    Calls Tryd.prog 69 #[.agg #[.int .i64 W, .int .i64 H, .slice A n c], .func (.func 71) #[] #[]] w (ListOut 1 (jpN (1) W H n f) (jpF (1) W H n f) (okC W H n f) w.heap.size w) := by
  have hbel : Below w.heap.size w ((w.alloc (.cells #[.int .i64 W, .int .i64 H, .slice A n c] 30)).alloc (.cells #[.func (.func 71) #[] #[]] 96)) := ((Below.refl _ _).alloc (Nat.le_refl _) _).alloc (by simp) _
  have HX := Lib.hid ((Box.new w 30 W H A n c).below ((Below.refl _ _).alloc (Nat.le_refl _) (.cells #[.func (.func 71) #[] #[]] 96)) (by simp))
  have HF := Lib.hid (show At ((w.alloc (.cells #[.int .i64 W, .int .i64 H, .slice A n c] 30)).alloc (.cells #[.func (.func 71) #[] #[]] 96)) (w.heap.size + 1) #[.func (.func 71) #[] #[]] 96 from At.newAt (by simp))
  have HR := Lib.hid (hr.below hbel (Nat.le_refl _))
  have HT := Lib.hid (hT.below hbel hT.1)
  have HL := Lib.hid hbel
  have hcm := hr.2.1
  have hnc := hr.1
  unfold maxLen at hcm
  clear hr hT hbel
  cases hv : validB W H n f
  · have e1 : jpN (1) W H n f = 0 := by simp [jpN, hv]
    rw [e1, (segN_no hv).2]
    have HV := Lib.hid hv
    obtain ⟨xz, x0, x1, x2⟩ := id HX.out
    clear hv e1
    go_enter Tryd.func69, Tryd.ntmps69
    go_wp2_with fail
    refine (implOk_is HV.out HR.out).mono ?_
    rintro e w1 ⟨rfl, b1⟩
    have HL1 := Lib.hid (HL.out.trans (b1.mono HL.out.size))
    clear b1
    go_wp2
    go_ret2
    exact ⟨none, 0, rfl, ownS_nil _ _ _ _, HL1.out⟩
  · have e1 : jpN (1) W H n f = (flI (jpP (1) W H f) n).length := by simp [jpN, hv]
    rw [e1, (segN_yes hv).2]
    obtain ⟨hW, hH, hn, hK⟩ := validB_yes hv
    have hn1 : n ≤ 112 := by have := (inner_bd hW hH).2; omega
    obtain ⟨M, hM⟩ : ∃ M : Nat, (M : Int) = 4 * W * H := ⟨(4 * W * H).toNat, by have := (segs_bd hW hH).1; omega⟩
    have HV := Lib.hid hv
    have HTO := Lib.hid (fun (w' : World) (hr : Row .i64 w' A n c f) (hT : TabsJ w') => impl_trialOf w' W H A n c f hr hT.2.1 hT.2.2 hv)
    have HO := Lib.hid (fun (k : Nat) (hk : k < n) (w' : World) (F E L T tb : Nat) (lv : Value) (ht : TrX w' W H f n F E M L T tb lv) (hT : TabsJ w') (h1 : max 0 1 ≤ L) => trx_outcomes w' W H f n F E M L T tb k lv hv hM ht hT.2.1 hT.2.2 hk (by omega) (by omega))
    have HM := Lib.hid (show (4 * W * H).toNat = M by omega)
    have HP : Hid (∀ k, k < n → ∀ fk : Nat, f k = (fk : Int) → jpP (1) W H f k = (List.range 3).any (fun i => decide (outK W H f k i > outK W H f k fk))) := Lib.hid (fun k hk fk e => by
      unfold jpP jpQ
      have h0 : outK W H f k fk = (cnN W H f : Int) := by unfold outK; rw [← e, put_same]
      rw [h0]
      refine congrArg (List.any (List.range 3)) (funext fun i => ?_)
      exact decide_eq_decide.2 (by omega))
    have HFK : Hid (∀ k, k < n → ∃ fk : Nat, f k = (fk : Int) ∧ fk < 3) := Lib.hid (fun k hk => ⟨(f k).toNat, by have := kinds_iff.1 hK k hk; omega, by have := kinds_iff.1 hK k hk; omega⟩)
    have HBD : Hid (∀ k i, i < 3 → (Lit.int .i64 (outK W H f k i)).wf = true) := Lib.hid (fun k i hi => WalkArith.wf_i64 (by have := outK_bd hv k hi; omega))
    obtain ⟨R, hR⟩ : ∃ R, outK W H f = R := ⟨_, rfl⟩
    rw [hR] at HO HP HBD
    obtain ⟨i2, hi2, hz0, hz1, hz2⟩ := info_parts infoI64
    generalize hok : jpP (1) W H f = ok at HP ⊢
    have HOKE := Lib.hid (show jpF (1) W H n f = flF ok n by unfold jpF; rw [hok])
    obtain ⟨xz, x0, x1, x2⟩ := id HX.out
    clear hv hW hH hn hK hM hR hok e1
    go_enter Tryd.func69, Tryd.ntmps69
    go_wp2_with fail
    clear xz x0 x1 x2
    refine (implOk_is HV.out HR.out).mono ?_
    rintro e w3 ⟨rfl, b1⟩
    have HX3 := Lib.hid (HX.out.below b1 HX.out.1)
    have HF3 := Lib.hid (HF.out.below b1 HF.out.lt)
    have HR3 := Lib.hid (HR.out.below b1 (Nat.le_refl _))
    have HT3 := Lib.hid (HT.out.below b1 HT.out.1)
    have HL3 := Lib.hid (HL.out.trans (b1.mono HL.out.size))
    clear b1 HX HF HR HT HL
    obtain ⟨xz, x0, x1, x2⟩ := id HX3.out
    go_wp2_with fail
    clear xz x0 x1 x2
    refine (HTO.out _ HR3.out HT3.out).mono ?_
    rintro e w4 ⟨F, E, tb, lv, rfl, ht, b4⟩
    rw [HM.out] at ht
    have HT4 := Lib.hid ht
    have HB4 := Lib.hid b4
    have HLV4 := Lib.hid (fun q (hq : lv.ownBlock = some q) => ht.lvs hq)
    have hz4 := b4.size
    clear ht b4
    have bA := (Below.refl w4.heap.size w4).alloc (Nat.le_refl _) (.cells #[.int .i64 W, .int .i64 H, .pointer (some ⟨F, 0, none⟩), .slice (some ⟨tb, 0, none⟩) n n] 89)
    have bB := (Below.refl (w4.alloc (.cells #[.int .i64 W, .int .i64 H, .pointer (some ⟨F, 0, none⟩), .slice (some ⟨tb, 0, none⟩) n n] 89)).heap.size (w4.alloc (.cells #[.int .i64 W, .int .i64 H, .pointer (some ⟨F, 0, none⟩), .slice (some ⟨tb, 0, none⟩) n n] 89))).alloc (Nat.le_refl _) (.cells #[] 2)
    have HTB := Lib.hid ((At.new w4 #[.int .i64 W, .int .i64 H, .pointer (some ⟨F, 0, none⟩), .slice (some ⟨tb, 0, none⟩) n n] 89).below bB (by simp))
    have HTR := Lib.hid ((HT4.out.below bA).below bB)
    have HO6 := Lib.hid (owns_empty (w4.alloc (.cells #[.int .i64 W, .int .i64 H, .pointer (some ⟨F, 0, none⟩), .slice (some ⟨tb, 0, none⟩) n n] 89)) 2)
    have HB6 := Lib.hid (HB4.out.trans ((bA.trans (bB.mono bA.size)).mono hz4))
    have hsz : (w4.alloc (.cells #[.int .i64 W, .int .i64 H, .pointer (some ⟨F, 0, none⟩), .slice (some ⟨tb, 0, none⟩) n n] 89)).heap.size = w4.heap.size + 1 := by simp
    rw [hsz] at HO6
    have hzz : ((w4.alloc (.cells #[.int .i64 W, .int .i64 H, .pointer (some ⟨F, 0, none⟩), .slice (some ⟨tb, 0, none⟩) n n] 89)).alloc (.cells #[] 2)).heap.size = w4.heap.size + 2 := by simp
    clear bA bB HT4 HB4 HTO
    obtain ⟨xz, x0, x1, x2⟩ := HX3.out.below HB6.out HX3.out.1
    go_wp2
    clear xz x0 x1 x2
    generalize (w4.alloc (.cells #[.int .i64 W, .int .i64 H, .pointer (some ⟨F, 0, none⟩), .slice (some ⟨tb, 0, none⟩) n n] 89)).alloc (.cells #[] 2) = w6 at *
    clear hsz
    obtain ⟨TX, hTX⟩ : ∃ TX, w4.heap.size = TX := ⟨_, rfl⟩
    rw [hTX] at HTB HTR HO6 HLV4 hz4 hzz ⊢
    clear hTX
    obtain ⟨L, hL⟩ : ∃ L, w3.heap.size = L := ⟨_, rfl⟩
    have HLE := Lib.hid hL
    rw [hL] at HTR HB6 hz4 HLV4
    clear hL
    go_loopw [7, 20] (fun u iv wr => ∃ (k : Nat) (lv : Value), k ≤ n ∧ iv = .int .i64 (k : Int) ∧ Hid (TrX wr W H f n F E M L TX tb lv) ∧ Hid (∀ q, lv.ownBlock = some q → q ≠ TX ∧ u.ownBlock ≠ some q) ∧ Hid (wr.ownsRow (TX + 1) 2 1 u (flI ok k).length (ivs (flI ok k))) ∧ Hid (At wr TX #[.int .i64 W, .int .i64 H, .pointer (some ⟨F, 0, none⟩), .slice (some ⟨tb, 0, none⟩) n n] 89) ∧ Hid (Below L w3 wr) ∧ TX + 2 ≤ wr.heap.size) (fun _ iv _ => 200 - (intOf iv).toNat)
    case atStart => exact ⟨0, lv, Nat.zero_le _, rfl, HTR, Lib.hid (fun q hq => ⟨by have := HLV4.out q hq; omega, fun e => by have := HLV4.out q hq; have := HO6.out.lt q e; omega⟩), HO6, HTB, HB6, by omega⟩
    case round =>
      clear HTR HO6 HTB HB6 HLV4 hzz
      obtain ⟨k, lv1, hk, rfl, HTR, HLV, HU, HTB, HB, hzr⟩ := hrel
      obtain ⟨Ao, co, rfl⟩ := owns_slice HU.out
      have hln := flI_len (ok := ok) k
      by_cases hlt : k < n
      · obtain ⟨fk, hfk, hf3⟩ := HFK.out k hlt
        have HPk := Lib.hid (HP.out k hlt fk hfk)
        have hLz : L = w3.heap.size := HLE.out.symm
        obtain ⟨b, o, e, hbl, hc⟩ := (HR3.out.below HB.out (by omega)).2.2.2 (by omega)
        subst e
        have hck := hc k hlt
        rw [hfk] at hck
        have t0 : wr.cell? ⟨TX, 0, none⟩ = some (.int .i64 W) := HTB.out.cellv (i := 0) rfl
        have t1 : wr.cell? ⟨TX, 1, none⟩ = some (.int .i64 H) := HTB.out.cellv (i := 1) rfl
        have t2 : wr.cell? ⟨TX, 2, none⟩ = some (.pointer (some ⟨F, 0, none⟩)) := HTB.out.cellv (i := 2) rfl
        have t3 : wr.cell? ⟨TX, 3, none⟩ = some (.slice (some ⟨tb, 0, none⟩) n n) := HTB.out.cellv (i := 3) rfl
        have tz := HTB.out.lt
        have bK := (Below.refl wr.heap.size wr).alloc (Nat.le_refl _) (.cells #[.int .i64 (fk : Int)] 2)
        have HTRa := Lib.hid (HTR.out.below bK)
        have HBa := Lib.hid (HB.out.trans (bK.mono (by have := HB.out.size; omega)))
        have HTBa := Lib.hid (HTB.out.below bK HTB.out.lt)
        have HUa := Lib.hid (owns_belowS HU.out bK)
        have HKa := Lib.hid (At.new wr #[.int .i64 (fk : Int)] 2)
        have HLs : Hid (∀ q, lv1.ownBlock = some q → q < wr.heap.size) := Lib.hid (fun q hq => (HTR.out.lvs hq).2)
        have HUs : Hid (∀ q, (Value.slice Ao (flI ok k).length co).ownBlock = some q → TX + 1 ≤ q ∧ q < wr.heap.size) := Lib.hid (fun q hq => HU.out.lt q hq)
        have hza : (wr.alloc (.cells #[.int .i64 (fk : Int)] 2)).heap.size = wr.heap.size + 1 := by simp
        clear hc hfk bK HTR HB HTB HU
        go_wp2_with fail
        clear t0 t1 t2 t3 tz hck
        generalize wr.alloc (.cells #[.int .i64 (fk : Int)] 2) = wa at *
        obtain ⟨bk, hbk⟩ : ∃ bk, wr.heap.size = bk := ⟨_, rfl⟩
        rw [hbk] at HKa HLs HUs hza hzr ⊢
        clear hbk
        refine (HO.out k hlt wa F E _ _ tb lv1 HTRa.out (HT3.out.below HBa.out (by have := HT3.out.1; omega)) (by have := HT3.out.1; omega)).mono ?_
        rintro e wb ⟨rfl, lv2, ht2, hkx⟩
        rw [nrA3]
        have hfe := HTRa.out.fe
        have hTl := HTRa.out.lt
        have hzb := hkx.size
        have HTRb := Lib.hid ht2
        have HBb := Lib.hid (HBa.out.trans (HTRa.out.kx_below hkx))
        have HTBb := Lib.hid (hkx.at_ HTBa.out (by simp; omega) (fun e => (HLV.out _ e).1 rfl))
        have HKb := Lib.hid (hkx.at_ HKa.out (by simp; omega) (fun e => by have := HLs.out _ e; omega))
        have HUb := Lib.hid (owns_block HUa.out (fun q hq => hkx.block q (by have := HUs.out q hq; omega) (by have := HUs.out q hq; simp; omega) (fun e => (HLV.out q e).2 hq)))
        have HLVb : Hid (∀ q, lv2.ownBlock = some q → q ≠ TX ∧ (Value.slice Ao (flI ok k).length co).ownBlock ≠ some q) := Lib.hid (fun q hq => by
          rcases hkx.own q hq with h | h
          · exact HLV.out q h
          · exact ⟨by omega, fun e => by have := HUs.out q e; omega⟩)
        obtain ⟨r, hre⟩ : ∃ r, R k = r := ⟨_, rfl⟩
        have HBk := Lib.hid (HBD.out k)
        rw [hre] at HPk HBk ⊢
        clear ht2 hkx HTRa HBa HTBa HKa HUa HLV hre
        have bN := (Below.refl wb.heap.size wb).alloc (Nat.le_refl _) (.cells #[.int .i64 (r 0), .int .i64 (r 1), .int .i64 (r 2)] 85)
        have HTRc := Lib.hid (HTRb.out.below bN)
        have HBc := Lib.hid (HBb.out.trans (bN.mono (by have := HBb.out.size; omega)))
        have HTBc := Lib.hid (HTBb.out.below bN HTBb.out.lt)
        have HKc := Lib.hid (HKb.out.below bN HKb.out.lt)
        have HUc := Lib.hid (owns_belowS HUb.out bN)
        have HNc := Lib.hid (At.new wb #[.int .i64 (r 0), .int .i64 (r 1), .int .i64 (r 2)] 85)
        have HRc := Lib.hid (World.rowIs_alloc wb #[.int .i64 (r 0), .int .i64 (r 1), .int .i64 (r 2)] 85 (fun i => .int .i64 (r i)) (fun i hi => nr3_at r hi))
        have hzc : (wb.alloc (.cells #[.int .i64 (r 0), .int .i64 (r 1), .int .i64 (r 2)] 85)).heap.size = wb.heap.size + 1 := by simp
        have hnz := HNc.out.lt
        clear bN HTRb HBb HTBb HKb HUb
        go_wp2_with fail
        generalize wb.alloc (.cells #[.int .i64 (r 0), .int .i64 (r 1), .int .i64 (r 2)] 85) = wc at *
        obtain ⟨bn, hbn⟩ : ∃ bn, wb.heap.size = bn := ⟨_, rfl⟩
        rw [hbn] at HNc HRc hzc hnz hzb ⊢
        clear hbn
        have HFc := Lib.hid (HF3.out.below HBc.out (by have := HF3.out.lt; omega))
        obtain ⟨v, hv⟩ : ∃ v, ok k = v := ⟨_, rfl⟩
        have HVv := Lib.hid hv
        refine (lib_containsJ wc (some ⟨bn, 0, none⟩) 3 3 r (w.heap.size + 1) bn bk _ v ((ownRow_of (base := bn) HRc.out (by show 3 ≤ maxLen; unfold maxLen; omega) (fun i hi => HBk.out i hi) (Nat.le_refl _)).row) (by omega)
          (Lib.hid (fun i hi w' b => clo_dividingPoints w' (w.heap.size + 1) bn bk fk r (r i) hf3 (HFc.out.below b HFc.out.lt) (HNc.out.below b HNc.out.lt) (HKc.out.below b HKc.out.lt))) (HPk.out.symm.trans hv)).mono ?_
        rintro e wd ⟨rfl, bd⟩
        have HTRd := Lib.hid (HTRc.out.below bd)
        have HBd := Lib.hid (HBc.out.trans (bd.mono (by have := HBc.out.size; omega)))
        have HTBd := Lib.hid (HTBc.out.below bd HTBc.out.lt)
        have HUd := Lib.hid (owns_belowS HUc.out bd)
        have hzd := bd.size
        clear bd HTRc HBc HTBc HUc HKc HNc HRc HFc hv hnz
        cases v
        · go_wp2
          go_roundw
          case rel => exact ⟨k + 1, lv2, by omega, by go_num, HTRd, HLVb, Lib.hid (by rw [flI_no HVv.out]; exact HUd.out), HTBd, HBd, by omega⟩
          case measure => simp [intOf]; omega
        · have HYS := Lib.hid (flI_yes (ok := ok) (k := k) HVv.out)
          have hXa := Lib.hid ((Below.refl wd.heap.size wd).alloc (Nat.le_refl _) (.cells #[.int .i64 (k : Int)] 2))
          obtain ⟨ln, hlne⟩ : ∃ ln, (flI ok k).length = ln := ⟨_, rfl⟩
          rw [hlne] at HUd HUs HLVb hln ⊢
          have HLN := Lib.hid hlne
          clear hlne
          have hza2 : (wd.alloc (.cells #[.int .i64 (k : Int)] 2)).heap.size = wd.heap.size + 1 := by simp
          go_wp2_with (first
            | (at_builtin; refine wpList_append_lies _ (by rfl) _ _ _ (by rfl) (TX + 1) 2 i2 _ 1 8 Tryd.underlying22 hi2 hz0 hz1 hz2 rfl (by omega) _ ln (ivs (flI ok k)) (by rfl) (owns_belowS HUd.out hXa.out) ⟨wd.heap.size, 0, none⟩ 1 1 [.int .i64 (k : Int)] (by rfl) (by rfl) (World.news_of_block (cs := #[.int .i64 (k : Int)]) (t := 2) (fr := (0, 0)) (heap_alloc_new wd _)) (fun u hu => by simp at hu; subst hu; rfl) (by omega) (by unfold maxLen; omega) (by omega) (by simp; omega) (wd.heap.size + 1) (by simp) ?_; intro g6 cap6 w9 hown6 hgrow6 hat6 hlt6; have HOW := Lib.hid hown6; have HGR := Lib.hid hgrow6; have HAT := Lib.hid hat6; clear hown6 hgrow6 hat6))
          have HTRe := Lib.hid (HTRd.out.below hXa.out)
          have hTz := HTRd.out.lt
          have hgz := HGR.out.size
          go_roundw
          case rel =>
            refine ⟨k + 1, lv2, by omega, by go_num, Lib.hid (HTRe.out.keep (fun b hb => HGR.out.block b (by omega) (fun e => by have := HUs.out b e.symm; omega)) (fun q hq => HGR.out.block q (by have := (HTRe.out.lvs hq).2; omega) (fun e => (HLVb.out q hq).2 e.symm)) (by omega)), Lib.hid (fun q hq => ⟨(HLVb.out q hq).1, fun e => ?_⟩), Lib.hid ?_, Lib.hid ((HTBd.out.below hXa.out HTBd.out.lt).of_block (HGR.out.block TX (by have := HTBd.out.lt; omega) (fun e => by have := HUs.out TX e.symm; omega))), Lib.hid ((HBd.out.trans (hXa.out.mono (by have := HBd.out.size; omega))).grown HGR.out (by have := HBd.out.size; omega) (fun b e => by have := HUs.out b e; omega)), by omega⟩
            · have hqz := (HTRd.out.lvs hq).2
              have e' : g6 = q := by simpa [Value.ownBlock] using e
              rcases HAT.out with h | h
              · exact (HLVb.out q hq).2 (by rw [h, e'])
              · omega
            · have e : ivs (flI ok (k + 1)) = ivs (flI ok k) ++ [.int .i64 (k : Int)] := by rw [HYS.out]; unfold ivs; simp
              have e2 : (flI ok (k + 1)).length = ln + 1 := by rw [HYS.out, List.length_append, HLN.out]; rfl
              rw [e, e2]
              exact HOW.out
          case measure => simp [intOf]; omega
      · obtain rfl : k = n := by omega
        have hLz : L = w3.heap.size := HLE.out.symm
        go_wp2
        go_ret2
        rw [HOKE.out]
        exact ⟨Ao, co, rfl, fl_own (by omega) HU.out (by have := HL3.out.size; omega), HL3.out.trans (HB.out.mono (by have := HL3.out.size; omega))⟩
theorem impl_dividingPoints (w : World) (W H : Int) (A : Option Addr) (n c : Nat) (f : Nat → Int) (hr : Row .i64 w A n c f) (hT : TabsJ w) :
    Calls Tryd.prog 26 #[.agg #[.int .i64 W, .int .i64 H, .slice A n c]] w (ListOut 1 (jpN (1) W H n f) (jpF (1) W H n f) (okC W H n f) w.heap.size w) := by
  have hbel : Below w.heap.size w (w.alloc (.cells #[.int .i64 W, .int .i64 H, .slice A n c] 30)) := (Below.refl _ _).alloc (Nat.le_refl _) _
  have HC := Lib.hid (impl_pw_dividingPoints _ W H A n c f (hr.below hbel (Nat.le_refl _)) (hT.below hbel hT.1))
  have HL := Lib.hid hbel
  clear hr hT hbel
  go_enter Tryd.func26, Tryd.ntmps26
  go_wp2_with fail
  refine HC.out.mono ?_
  rintro e w1 ⟨A5, c5, rfl, ho, b1⟩
  have HO := Lib.hid ho
  have HL1 := Lib.hid (HL.out.trans (b1.mono HL.out.size))
  clear ho b1
  go_wp2
  go_ret2
  exact ⟨A5, c5, rfl, ownS_lower HO.out HL.out.size, HL1.out⟩
end Go.Proofs.YtjgclemfehfgiaaDoor.Base
