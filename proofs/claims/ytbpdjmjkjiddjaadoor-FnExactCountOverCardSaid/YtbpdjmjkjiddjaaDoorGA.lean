/-
  Several texts in one.
-/
import Derived.Test.YtbpdjmjkjiddjaaDoorCov
import Derived.Test.YtbpdjmjkjiddjaaDoorQps
import Derived.Test.YtbpdjmjkjiddjaaDoorSt3
import Derived.Test.YtbpdjmjkjiddjaaDoorTrs
import Derived.Test.YtbpdjmjkjiddjaaDoorWsc
import Derived.Sort.CutIn
import Derived.Test.YtbpdjmjkjiddjaaDoorTch
import Derived.Test.YtbpdjmjkjiddjaaDoorPao
import Derived.Test.YtbpdjmjkjiddjaaDoorCxp
import Derived.Test.YtbpdjmjkjiddjaaDoorTrc
namespace Go.Proofs.YtbpdjmjkjiddjaaDoor.Base
open Go Go.RowKit
set_option linter.unusedVariables false
set_option linter.unusedSimpArgs false
attribute [local go_sem] Oper.semAt_some

theorem pt_over (w : World) (x y : Int) : Calls Tryd.prog 211 #[.agg #[.int .i64 x, .int .i64 y]] w (Gives (.agg #[.int .i64 x, .int .i64 y]) w) := by
  go_enter Tryd.func211, Tryd.ntmps211
  go_wp2
  refine bodyPost_ret ?_ rfl ⟨rfl, ((Below.refl _ _).alloc (Nat.le_refl _) _).alloc (by simp) _⟩
  simp [results, Tryd.results211, go_sem]
theorem pt_under (w : World) (x y : Int) : Calls Tryd.prog 212 #[.agg #[.int .i64 x, .int .i64 y]] w (Gives (.agg #[.int .i64 x, .int .i64 y]) w) := by
  go_enter Tryd.func212, Tryd.ntmps212
  go_wp2
  refine bodyPost_ret ?_ rfl ⟨rfl, ((Below.refl _ _).alloc (Nat.le_refl _) _).alloc (by simp) _⟩
  simp [results, Tryd.results212, go_sem]
/-- a list of passes, made by the call -/
def PssMade (L : List (Int × Bool)) (w : World) (e : Ending) (w' : World) : Prop :=
  ∃ u, e = .returned u ∧ w'.ownsRow w.heap.size 67 2 u L.length (pcV L) ∧ Below w.heap.size w w'
set_option maxHeartbeats 8000000 in
set_option maxRecDepth 100000 in
theorem impl_passes (w : World) (W H : Int) (A Ac : Option Addr) (n c gu N cu mc cc i0 : Nat) (f : Nat → Int) (x y dx dy : Int) (hr : Row .i64 w A n c f) (hT : Cel w 0 [.int .i64 1, .int .i64 1, .int .i64 (-1), .int .i64 1, .int .i64 1, .int .i64 (-1)]) (hv : validB W H n f = true) (hok : okW W H n f (x, y, dx, dy) = true)
    (hi : i0 < N) (hN : N ≤ 256) (hgu : gu < w.heap.size) (s0 : w.cell? ⟨gu, i0 * 4, none⟩ = some (.int .i64 x)) (s1 : w.cell? ⟨gu, i0 * 4 + 1, none⟩ = some (.int .i64 y)) (s2 : w.cell? ⟨gu, i0 * 4 + 2, none⟩ = some (.int .i64 dx)) (s3 : w.cell? ⟨gu, i0 * 4 + 3, none⟩ = some (.int .i64 dy)) :
    Calls Tryd.prog 58 #[.agg #[.int .i64 W, .int .i64 H, .slice A n c, .slice (some ⟨gu, 0, none⟩) N cu, .slice Ac mc cc], .int .i64 (i0 : Int)] w (PssMade (pcL W H f (x, y, dx, dy) (per W H f (x, y, dx, dy))) w) := by
  have HL := Lib.hid (show Below w.heap.size w (w.alloc (.cells #[.int .i64 W, .int .i64 H, .slice A n c, .slice (some ⟨gu, 0, none⟩) N cu, .slice Ac mc cc] 84)) from (Below.refl _ _).alloc (Nat.le_refl _) _)
  have HP := Lib.hid (At.new w #[.int .i64 W, .int .i64 H, .slice A n c, .slice (some ⟨gu, 0, none⟩) N cu, .slice Ac mc cc] 84)
  have HPE := per_is hok
  obtain ⟨K, hK⟩ : ∃ K, per W H f (x, y, dx, dy) = K := ⟨_, rfl⟩
  rw [hK] at HPE ⊢
  have hK1 : K ≤ 1156 := HPE.2.1
  have HPR := Lib.hid HPE
  have HOK := Lib.hid hok
  have HR := Lib.hid hr
  have HV := Lib.hid hv
  have HT := Lib.hid hT
  have HS := Lib.hid (And.intro s0 (And.intro s1 (And.intro s2 s3)))
  obtain ⟨i2, hi2, hz0, hz1, hz2⟩ := info_parts infoPass
  have HI2 := Lib.hid (And.intro hi2 (And.intro hz0 (And.intro hz1 hz2)))
  clear hr hT hv hok HPE hK s0 s1 s2 s3 hi2 hz0 hz1 hz2
  have k0 := HP.out.cellv (i := 0) rfl
  have k1 := HP.out.cellv (i := 1) rfl
  have k2 := HP.out.cellv (i := 2) rfl
  have lp := HP.out.lt
  refine (callsIn_wide (n := 6)).1 ?_
  refine callsIn_of_wp_marks Tryd.func58 rfl trivial ?_ rfl
  simp only [Tryd.ntmps58, List.size_toArray, List.length_cons, List.length_nil, Nat.reduceAdd, Nat.reduceSub, Array.replicate_succ, Array.replicate_zero, List.push_toArray, List.append_toArray, List.nil_append, List.cons_append]
  gi_wp2_with fail
  clear k0 k1 k2 lp
  refine ⟨trivial, (callsIn_wide.2 (impl_numbers _ W H A n c f (HR.out.below HL.out (Nat.le_refl _)) HV.out)).mono ?_⟩
  rintro e w1 ⟨mb, rfl, hM, b1⟩
  have HM1 := Lib.hid hM
  have HP1 := Lib.hid (HP.out.below b1 HP.out.lt)
  have HL1 := Lib.hid (HL.out.trans (b1.mono HL.out.size))
  have hmb := hM.lt
  clear b1 HL HP hM
  obtain ⟨nb, hnb⟩ : ∃ nb, w1.heap.size = nb := ⟨_, rfl⟩
  have hlw : w.heap.size < w1.heap.size := HP1.out.lt
  obtain ⟨w2, hw2⟩ : ∃ w2, w1.alloc (.cells #[.map (some mb)] 113) = w2 := ⟨_, rfl⟩
  have B2 : Below w1.heap.size w1 w2 := by rw [← hw2]; exact (Below.refl _ _).alloc (Nat.le_refl _) _
  have z2 : w2.heap.size = nb + 1 := by rw [← hw2, ← hnb]; simp
  have HN2 : Hid (At w2 nb #[.map (some mb)] 113) := Lib.hid (by rw [← hw2, ← hnb]; exact At.new _ _ _)
  have B4 := ((Below.refl w2.heap.size w2).alloc (Nat.le_refl _) (.cells #[] 67)).alloc (by simp) (.cells #[.slice (some ⟨w2.heap.size, 0, none⟩) 0 0] 25)
  have B14 := B2.trans (B4.mono B2.size)
  have HP4 := Lib.hid (HP1.out.below B14 HP1.out.lt)
  have HM4 := Lib.hid (HM1.out.of_block (B14.block _ hmb))
  have HN4 := Lib.hid (HN2.out.below B4 HN2.out.lt)
  have HL4 := Lib.hid (HL1.out.trans (B14.mono HL1.out.size))
  have HO4 := Lib.hid (owns_belowS (owns_new0 (X := w2) (e := 67) (s := 2) rfl (Nat.le_refl w2.heap.size)) ((Below.refl (w2.alloc (.cells #[] 67)).heap.size (w2.alloc (.cells #[] 67))).alloc (Nat.le_refl _) (.cells #[.slice (some ⟨w2.heap.size, 0, none⟩) 0 0] 25)))
  have HG4 : Hid (At ((w2.alloc (.cells #[] 67)).alloc (.cells #[.slice (some ⟨w2.heap.size, 0, none⟩) 0 0] 25)) (w2.heap.size + 1) #[.slice (some ⟨w2.heap.size, 0, none⟩) 0 0] 25) := Lib.hid (by have h := At.new (w2.alloc (.cells #[] 67)) #[.slice (some ⟨w2.heap.size, 0, none⟩) 0 0] 25; simpa using h)
  have hz4 : ((w2.alloc (.cells #[] 67)).alloc (.cells #[.slice (some ⟨w2.heap.size, 0, none⟩) 0 0] 25)).heap.size = nb + 1 + 1 + 1 := by simp [z2]
  rw [z2] at HO4 HG4
  clear HN2 B2 B4 B14 HP1 HM1 HL1
  have lb4 := HL4.out
  have l0 := HP4.out.lt
  have k0 := HP4.out.cellv (i := 0) rfl
  have k1 := HP4.out.cellv (i := 1) rfl
  have k2 := HP4.out.cellv (i := 2) rfl
  have t3 := HP4.out.cellv (i := 3) rfl
  have gu4 := Nat.lt_of_lt_of_le hgu lb4.size
  have q0 := (lb4.cell (p := ⟨gu, i0 * 4, none⟩) hgu).trans HS.out.1
  have q1 := (lb4.cell (p := ⟨gu, i0 * 4 + 1, none⟩) hgu).trans HS.out.2.1
  have q2 := (lb4.cell (p := ⟨gu, i0 * 4 + 2, none⟩) hgu).trans HS.out.2.2.1
  have q3 := (lb4.cell (p := ⟨gu, i0 * 4 + 3, none⟩) hgu).trans HS.out.2.2.2
  clear lb4
  have HW2 := Lib.hid hw2
  have HNB := Lib.hid hnb
  have HZ2 := Lib.hid z2
  clear hw2 hnb z2
  gi_wp2_with fail
  rw [HW2.out, HNB.out]
  rw [HZ2.out] at HP4 HM4 HN4 HL4 hz4 l0 k0 k1 k2 t3 gu4 q0 q1 q2 q3
  generalize (w2.alloc (.cells #[] 67)).alloc (.cells #[.slice (some ⟨nb + 1, 0, none⟩) 0 0] 25) = w4 at *
  have lt := l0
  gi_cut [22] from 15 (fun s22 wx => ∃ b, s22 = .func (.func 173) #[] #[.pointer (some ⟨b, 0, none⟩), .pointer (some ⟨b + 1, 0, none⟩)] ∧ w4.heap.size ≤ b ∧ At wx (b + 1) #[.func (.func 143) #[.agg #[.int .i64 W, .int .i64 H, .slice A n c]] #[]] 183 ∧ At wx b #[.int .i64 x, .int .i64 y, .int .i64 dx, .int .i64 dy] 131 ∧ wx.heap.size = b + 1 + 1 ∧ Below w4.heap.size w4 wx)
  case first =>
    refine wpIn_wide.2 ?_
    go_region_held3 (fun w' => w'.cell? ⟨w.heap.size, 0, none⟩ = some (.int .i64 W) ∧ w'.cell? ⟨w.heap.size, 1, none⟩ = some (.int .i64 H) ∧ w'.cell? ⟨w.heap.size, 2, none⟩ = some (.slice A n c) ∧ w'.cell? ⟨w.heap.size, 3, none⟩ = some (.slice (some ⟨gu, 0, none⟩) N cu) ∧
        w'.cell? ⟨gu, i0 * 4, none⟩ = some (.int .i64 x) ∧ w'.cell? ⟨gu, i0 * 4 + 1, none⟩ = some (.int .i64 y) ∧ w'.cell? ⟨gu, i0 * 4 + 2, none⟩ = some (.int .i64 dx) ∧ w'.cell? ⟨gu, i0 * 4 + 3, none⟩ = some (.int .i64 dy) ∧ Below w4.heap.size w4 w')
      (first | exact ⟨k0, k1, k2, t3, q0, q1, q2, q3, (Below.refl _ _).drew⟩ | (with_reducible assumption) | exact ⟨(bcell hDa).1 _ _ l0 |>.trans k0, (bcell hDa).1 _ _ l0 |>.trans k1, (bcell hDa).1 _ _ l0 |>.trans k2, (bcell hDa).1 _ _ lt |>.trans t3, (bcell hDa).1 _ _ gu4 |>.trans q0, (bcell hDa).1 _ _ gu4 |>.trans q1, (bcell hDa).1 _ _ gu4 |>.trans q2, (bcell hDa).1 _ _ gu4 |>.trans q3, hDa⟩)
      (first | (go_at_call 96; refine (impl_round _ W H A n c x y dx dy).mono ?_; rintro e wa ⟨rfl, hPa, hWa, ba, za⟩; have hDa : Below w4.heap.size w4 wa := (Below.refl w4.heap.size w4).drew.trans ba))
    refine ‹∀ a' w', Met _ a' w' → _› _ _ ?_
    refine Met.intro ?_
    refine ‹∀ a' w', _ → _› _ _ ?_
    (repeat apply Exists.intro)
    refine ⟨?_, rfl⟩
    have hz4' : w4.drew.heap.size = nb + 1 + 1 + 1 := hz4
    rw [hz4'] at hPa hWa za
    exact ⟨nb + 1 + 1 + 1 + 1 + 1, rfl, by omega, hPa, hWa, za, hDa⟩
  case rest =>
    obtain ⟨b, rfl, hb, hP5, hW5, hz5, hB5⟩ := hcut
    have HS5 := Lib.hid hP5
    have HW5 := Lib.hid hW5
    have HP5 := Lib.hid (HP4.out.below hB5 l0)
    have HM5 := Lib.hid (HM4.out.of_block (hB5.block _ HM4.out.lt))
    have HN5 := Lib.hid (HN4.out.below hB5 HN4.out.lt)
    have HG5 := Lib.hid (HG4.out.below hB5 HG4.out.lt)
    have HO5 := Lib.hid (owns_belowS HO4.out hB5)
    have HL5 := Lib.hid (HL4.out.trans (hB5.mono HL4.out.size))
    have hz45 := hB5.size
    have hle : w.heap.size ≤ wc.heap.size := HL5.out.size
    have hbn : nb + 1 + 1 < b := by omega
    have hbz : b + 1 < wc.heap.size := by omega
    have hmbn : mb < nb := by have := HNB.out; omega
    have hwn : w.heap.size < nb := by have := HNB.out; omega
    clear k0 k1 k2 t3 q0 q1 q2 q3 HP4 HM4 HN4 HG4 HO4 HL4 hB5 hP5 hW5 hz5 hz4 hb hz45 gu4 l0 lt hmb hlw
    gi_wp2
    have hit : IterY Fence.wide 5 Tryd.prog 173 #[.pointer (some ⟨b, 0, none⟩), .pointer (some ⟨b + 1, 0, none⟩)] (fun j => #[wagg (stps W H f j (x, y, dx, dy))]) K w.heap.size [b, b + 1] wc :=
      round_iter 5 (by omega) w wc W H A n c f x y dx dy _ _ HR.out HT.out HOK.out K HPR.out HL5.out HW5.out HS5.out
    refine wpIn_rangeY rfl (by omega) (gf := 173) (lb := #[.pointer (some ⟨b, 0, none⟩), .pointer (some ⟨b + 1, 0, none⟩)]) rfl trivial (enters_of Tryd.func173 (by kernel_rfl) rfl) hit hle (by simp; omega) (Below.refl _ _) (fun _ => rfl)
      (fun X j A => ∃ u, X = (nb + 1 + 1) :: ownB u ∧ CoV wc (nb + 1 + 1) (nb + 1) 67 25 2 w (pcL W H f (x, y, dx, dy) j).length (pcV (pcL W H f (x, y, dx, dy) j)) u A) (fun _ _ _ => False) (holds_cov (cnt := fun j => (pcL W H f (x, y, dx, dy) j).length) (xf := fun j => pcV (pcL W H f (x, y, dx, dy) j)) (by omega) hle) (fun _ => holds_noC _) ((nb + 1 + 1) :: ownB (.slice (some ⟨nb + 1, 0, none⟩) 0 0)) (by simp [ownB, Value.ownBlock]; omega)
      ⟨_, rfl, Nat.le_refl _, fun _ _ => rfl, HG5.out, HO5.out, by simp [Value.ownBlock], HL5.out⟩
      (fun j a' X => ∃ p7, a' = { tmps := #[.agg #[.int .i64 W, .int .i64 H, .slice A n c, .slice (some ⟨gu, 0, none⟩) N cu, .slice Ac mc cc], .int .i64 i0, .pointer (some ⟨w.heap.size, 0, none⟩), undef, .slice none 0 0, .pointer (some ⟨nb, 0, none⟩), .pointer (some ⟨nb + 1 + 1, 0, none⟩), .pointer (some ⟨p7, 0, none⟩), undef, undef, undef, .pointer (some ⟨w.heap.size, 0, none⟩), .agg #[.int .i64 W, .int .i64 H, .slice A n c], .map (some mb), .slice (some ⟨nb + 1, 0, none⟩) 0 0, u15, u16, u17, u18, u19, u20, u21, .func (.func 173) #[] #[.pointer (some ⟨b, 0, none⟩), .pointer (some ⟨b + 1, 0, none⟩)], wagg (stps W H f j (x, y, dx, dy)), u24, u25, u26, u27, u28, u29, u30, u31, u32, u33, u34, u35, u36, u37, u38, u39, u40, u41, u42, u43], defers := [] } ∧ At X p7 (cs4 (stps W H f j (x, y, dx, dy))).toArray 131)
      (fun k a' X l o' h ho => by obtain ⟨p7, e, ha⟩ := h; exact ⟨p7, e, at_put ha ho⟩) ?assign ?body ?done ?stop
    case assign =>
      intro l j X Aw J hj hX hi hJ
      clear hit
      dsimp only [wagg]
      obtain ⟨v, hv⟩ : ∃ v, v = stps W H f j (x, y, dx, dy) := ⟨_, rfl⟩
      rw [← hv] at hJ ⊢
      have HVv := Lib.hid hv
      clear hv
      gi_wp2
      exact hJ _ _ ((Below.refl _ _).alloc (Nat.le_refl _) _) ⟨_, rfl, At.new _ _ _⟩
    case body =>
      rintro l j X a' Aw hj hX hXb ⟨u, rfl, hI⟩ ⟨p7, rfl, h7⟩
      clear hit
      have HI := Lib.hid hI
      have hvok := stps_ok HOK.out j
      have hno := @pcL_no W H f (x, y, dx, dy) j
      have hyes := @pcL_yes W H f (x, y, dx, dy) j
      have hln := pcL_len W H f (x, y, dx, dy) j
      obtain ⟨L, hL⟩ : ∃ L, pcL W H f (x, y, dx, dy) j = L := ⟨_, rfl⟩
      obtain ⟨L', hL'⟩ : ∃ L', pcL W H f (x, y, dx, dy) (j + 1) = L' := ⟨_, rfl⟩
      rw [hL] at hno hyes hln HI
      rw [hL'] at hno hyes
      obtain ⟨v, hv⟩ : ∃ v, v = stps W H f j (x, y, dx, dy) := ⟨_, rfl⟩
      rw [← hv] at h7 hvok hno hyes ⊢
      have hwk : wkB W H n f v.1 v.2.1 v.2.2.1 v.2.2.2 = true := hvok
      obtain ⟨hv', -⟩ := wk_valid hwk
      have HPS := Lib.hid (fun (w9 : World) (h9 : Row .i64 w9 A n c f) => impl_passage w9 W H A n c f v.1 v.2.1 v.2.2.1 v.2.2.2 h9 hwk)
      have HPA := Lib.hid (fun (w9 : World) => passed_any w9 W H f v.1 v.2.1 v.2.2.1 v.2.2.2 (v.1 + v.2.2.1) (v.2.1 + v.2.2.2))
      have hT' : psT W H f v.1 v.2.1 v.2.2.1 v.2.2.2 = (if isX W H f (v.1 + v.2.2.1) (v.2.1 + v.2.2.2) then (if ovW v.1 v.2.2.1 v.2.2.2 then 185 else 186) else 184) := rfl
      have hno : isX W H f (v.1 + v.2.2.1) (v.2.1 + v.2.2.2) = false → L' = L := fun h => hno (show pcX W H f v = false from h)
      have hyes : isX W H f (v.1 + v.2.2.1) (v.2.1 + v.2.2.2) = true → L' = L ++ [(((zl f (numN W (v.1 + v.2.2.1) (v.2.1 + v.2.2.2)).toNat).length : Int), ovW v.1 v.2.2.1 v.2.2.2)] := fun h => hyes (show pcX W H f v = true from h)
      have hci : isX W H f (v.1 + v.2.2.1) (v.2.1 + v.2.2.2) = true → cxC W H n f (v.1 + v.2.2.1) (v.2.1 + v.2.2.2) = 0 := fun h => by unfold cxC; rw [hv', (goNext hwk).1, h]; rfl
      have hlook := fun (h : isX W H f (v.1 + v.2.2.1) (v.2.1 + v.2.2.2) = true) (w9 : World) (hm : PtM w9 mb W f n (zl f n).length) => ci_look (hci h) hm
      obtain ⟨T, hTe⟩ : ∃ T, psT W H f v.1 v.2.1 v.2.2.1 v.2.2.2 = T := ⟨_, rfl⟩
      obtain ⟨px, hpx⟩ : ∃ px, v.1 + v.2.2.1 = px := ⟨_, rfl⟩
      obtain ⟨py, hpy⟩ : ∃ py, v.2.1 + v.2.2.2 = py := ⟨_, rfl⟩
      obtain ⟨ov, hov⟩ : ∃ ov, ovW v.1 v.2.2.1 v.2.2.2 = ov := ⟨_, rfl⟩
      obtain ⟨z, hz⟩ : ∃ z : Int, ((zl f (numN W px py).toNat).length : Int) = z := ⟨_, rfl⟩
      rw [hTe] at HPS HPA hT'
      rw [hpx, hpy] at HPS HPA hT' hno hyes hlook
      rw [hov] at HPA hT' hyes
      rw [hz] at hyes hlook
      have HTT := Lib.hid hT'
      have HY := Lib.hid hyes
      have HNo := Lib.hid hno
      have HLo := Lib.hid hlook
      have H7 := Lib.hid h7
      have HPw := Lib.hid (HP5.out.of_block (HI.out.old w.heap.size (by omega)))
      have HNw := Lib.hid (HN5.out.of_block (HI.out.old nb (by omega)))
      have HMw := Lib.hid (HM5.out.of_block (HI.out.old mb (by omega)))
      have HRw := Lib.hid (HR.out.below HI.out.bel (Nat.le_refl _))
      have hsz := HI.out.sz
      have hj1 : j < 1156 := by omega
      have HLe := Lib.hid hL'
      clear hI h7 hX hXb hv hvok hwk hv' hci hlook hTe hpx hpy hov hz hno hyes hj hL hL' hT'
      have y0 : Aw.cell? ⟨p7, 0, none⟩ = some (.int .i64 v.1) := H7.out.cellv (i := 0) rfl
      have y1 : Aw.cell? ⟨p7, 1, none⟩ = some (.int .i64 v.2.1) := H7.out.cellv (i := 1) rfl
      have y2 : Aw.cell? ⟨p7, 2, none⟩ = some (.int .i64 v.2.2.1) := H7.out.cellv (i := 2) rfl
      have y3 : Aw.cell? ⟨p7, 3, none⟩ = some (.int .i64 v.2.2.2) := H7.out.cellv (i := 3) rfl
      have l7 := H7.out.lt
      have k0 : Aw.cell? ⟨w.heap.size, 0, none⟩ = some (.int .i64 W) := HPw.out.cellv (i := 0) rfl
      have k1 : Aw.cell? ⟨w.heap.size, 1, none⟩ = some (.int .i64 H) := HPw.out.cellv (i := 1) rfl
      have k2 : Aw.cell? ⟨w.heap.size, 2, none⟩ = some (.slice A n c) := HPw.out.cellv (i := 2) rfl
      have lk := HPw.out.lt
      gi_wp2_with fail
      refine ⟨trivial, (CallsIn.inRound l (callsIn_wide.2 (HPS.out _ HRw.out))).mono ?_⟩
      rintro e A2 ⟨rfl, c2⟩
      have HA2 := Lib.hid c2
      clear c2 y0 y1 y2 y3 l7 k0 k1 k2 lk
      gi_wp2_with fail
      refine ⟨trivial, (CallsIn.inRound l (callsIn_wide.2 (HPA.out _))).mono ?_⟩
      rintro e A3 ⟨rfl, c3⟩
      have HA3 := Lib.hid (HA2.out.trans (c3.mono HA2.out.size))
      clear c3 HA2
      obtain ⟨xb, hxb⟩ : ∃ xb, isX W H f px py = xb := ⟨_, rfl⟩
      rw [hxb] at HY HNo HLo HTT ⊢
      clear hxb HPS HPA
      cases xb
      · gi_wp2
        have HC3 := Lib.hid (HI.out.below (by omega) HA3.out)
        have hl' := HNo.out (by simp)
        refine ⟨_, ⟨u, rfl, ?_⟩, Ext.of_below HA3.out, fun b hb => ⟨.inl hb, ?_⟩⟩
        · rw [HLe.out, hl']
          exact HC3.out
        · rcases List.mem_cons.1 hb with rfl | h2
          · exact HC3.out.box.lt
          · exact (HC3.out.own.lt b (ownB_mem.1 h2)).2
      · have HC3 := Lib.hid (HI.out.below (by omega) HA3.out)
        have hl' := HY.out (by simp)
        have HMA := Lib.hid (HMw.out.of_block (HA3.out.block mb HMw.out.lt))
        have u0 : A3.cell? ⟨nb + 1 + 1, 0, none⟩ = some u := HC3.out.box.cellv (i := 0) rfl
        have lu := HC3.out.box.lt
        have HNA := Lib.hid (HNw.out.below HA3.out HNw.out.lt)
        have n0 : A3.cell? ⟨nb, 0, none⟩ = some (.map (some mb)) := HNA.out.cellv (i := 0) rfl
        have ln := HNA.out.lt
        have hz3 := HA3.out.size
        have HLL := Lib.hid hl'
        clear hl' HNo
        gi_wp2_with fail
        refine stab_two10 [some 34, some 35, some 36, some 37, some 38, some 39, some 40, some 41] [34, 35, 36, 37, 38, 39, 40, 41] [] []
          [(fun a lo hi v' w' => v' = u), (fun a lo hi v' w' => v' = .map (some mb)), (fun a lo hi v' w' => v' = .iface T (.agg #[.int .i64 px, .int .i64 py])), (fun a lo hi v' w' => v' = .agg #[.int .i64 px, .int .i64 py]), (fun a lo hi v' w' => v' = .int .i64 z), (fun a lo hi v' w' => v' = .bool ov), (fun a lo hi v' w' => v' = .agg #[.int .i64 z, .bool ov]),
            (fun a lo hi v' w' => v' = .slice (some ⟨lo, 0, none⟩) 1 1 ∧ hi = lo + 1 ∧ At w' lo #[.int .i64 z, .bool ov] 67)]
          [[], [], [], [2], [1, 3], [], [4, 5], [6]] [[], [], [], [], [], [], [], []] (by intro x hx c; simp only [List.cons_append, List.nil_append, List.mem_cons, List.not_mem_nil, or_false] at hx; rcases hx with rfl | rfl | rfl | rfl | rfl | rfl | rfl | rfl | rfl | rfl <;> (intro h; cases h)) (by kernel_rfl) (by kernel_rfl) (by kernel_rfl) (by kernel_rfl) (fun k hk => absurd hk List.not_mem_nil) ?gS ?gO ?gR
        case gS => exact ⟨fun _ _ _ _ _ _ h _ => h, fun _ _ _ _ _ _ h _ => h, fun _ _ _ _ _ _ h _ => h, fun _ _ _ _ _ _ h _ => h, fun _ _ _ _ _ _ h _ => h, fun _ _ _ _ _ _ h _ => h, fun _ _ _ _ _ _ h _ => h, fun _ _ _ _ _ _ ⟨h1, h2, h3⟩ e => ⟨h1, h2, h3.same e (.inr ⟨Nat.le_refl _, by omega⟩)⟩, trivial⟩
        case gO =>
          refine ⟨?o0, ?o1, ?o2, ?o3, ?o4, ?o5, ?o6, ?o7, trivial⟩
          case o0 =>
            intro vs iv wk hx hf
            have ezz : nb + 1 + 1 < wk.heap.size := Nat.lt_of_lt_of_le lu hx.size
            have e0 : wk.cell? ⟨nb + 1 + 1, 0, none⟩ = some u := hx.cell u0 (by simp)
            intro K' hK
            simp only [setA, setT, List.setIfInBounds_toArray, List.set_cons_zero, List.set_cons_succ]
            go_simp
            refine hK.out _ (u) _ ?_ ?_
            · simp only [setA, setT, List.setIfInBounds_toArray, List.set_cons_zero, List.set_cons_succ, Act.put]
            · exact ⟨Ext.refl _ _, rfl⟩
          case o1 =>
            intro vs iv wk hx hf
            have ezz : nb < wk.heap.size := Nat.lt_of_lt_of_le ln hx.size
            have e0 : wk.cell? ⟨nb, 0, none⟩ = some (.map (some mb)) := hx.cell n0 (by simp)
            intro K' hK
            simp only [setA, setT, List.setIfInBounds_toArray, List.set_cons_zero, List.set_cons_succ]
            go_simp
            refine hK.out _ (.map (some mb)) _ ?_ ?_
            · simp only [setA, setT, List.setIfInBounds_toArray, List.set_cons_zero, List.set_cons_succ, Act.put]
            · exact ⟨Ext.refl _ _, rfl⟩
          case o2 =>
            intro vs iv wk hx hf
            intro K' hK
            simp only [setA, setT, List.setIfInBounds_toArray, List.set_cons_zero, List.set_cons_succ]
            go_simp
            refine hK.out _ (.iface T (.agg #[.int .i64 px, .int .i64 py])) _ ?_ ?_
            · simp only [setA, setT, List.setIfInBounds_toArray, List.set_cons_zero, List.set_cons_succ, Act.put]
            · exact ⟨Ext.refl _ _, rfl⟩
          case o3 =>
            intro vs iv wk hx hf
            obtain ⟨⟨hq2, -⟩, -⟩ := hf
            have hr2 : vs 36 = .iface T (.agg #[.int .i64 px, .int .i64 py]) := hq2
            clear hq2
            have hTT := HTT.out
            clear HTT
            cases ov
            · simp only [if_true, Bool.false_eq_true, if_false] at hTT
              rw [hTT] at hr2
              intro K' hK
              simp only [setA, setT, List.setIfInBounds_toArray, List.set_cons_zero, List.set_cons_succ]
              go_simp
              refine (pt_under _ px py).mono ?_
              rintro e w2 ⟨rfl, b2⟩
              dsimp only
              refine hK.out _ (.agg #[.int .i64 px, .int .i64 py]) _ ?_ ?_
              · simp only [setA, setT, List.setIfInBounds_toArray, List.set_cons_zero, List.set_cons_succ, Act.put, hr2, hTT]
              · exact ⟨Ext.of_below b2, rfl⟩
            · simp only [if_true] at hTT
              rw [hTT] at hr2
              intro K' hK
              simp only [setA, setT, List.setIfInBounds_toArray, List.set_cons_zero, List.set_cons_succ]
              go_simp
              refine (pt_over _ px py).mono ?_
              rintro e w2 ⟨rfl, b2⟩
              dsimp only
              refine hK.out _ (.agg #[.int .i64 px, .int .i64 py]) _ ?_ ?_
              · simp only [setA, setT, List.setIfInBounds_toArray, List.set_cons_zero, List.set_cons_succ, Act.put, hr2, hTT]
              · exact ⟨Ext.of_below b2, rfl⟩
          case o4 =>
            intro vs iv wk hx hf
            obtain ⟨⟨hq1, -⟩, ⟨hq3, -⟩, -⟩ := hf
            have hq1 : vs 35 = .map (some mb) := hq1
            have hq3 : vs 37 = .agg #[.int .i64 px, .int .i64 py] := hq3
            have hlk := HLo.out (by simp) wk (HMA.out.of_block (((Ext.drew _).trans hx).block mb HMA.out.lt (by simp)))
            intro K' hK
            simp only [setA, setT, List.setIfInBounds_toArray, List.set_cons_zero, List.set_cons_succ]
            go_simp
            refine hK.out _ (.int .i64 z) _ ?_ ?_
            · simp only [setA, setT, List.setIfInBounds_toArray, List.set_cons_zero, List.set_cons_succ, Act.put, hq1, hq3]
            · exact ⟨Ext.refl _ _, rfl⟩
          case o5 =>
            intro vs iv wk hx hf
            intro K' hK
            simp only [setA, setT, List.setIfInBounds_toArray, List.set_cons_zero, List.set_cons_succ]
            go_simp
            refine hK.out _ (.bool ov) _ ?_ ?_
            · simp only [setA, setT, List.setIfInBounds_toArray, List.set_cons_zero, List.set_cons_succ, Act.put]
            · exact ⟨Ext.refl _ _, rfl⟩
          case o6 =>
            intro vs iv wk hx hf
            obtain ⟨⟨hq4, -⟩, ⟨hq5, -⟩, -⟩ := hf
            have hq4 : vs 38 = .int .i64 z := hq4
            have hq5 : vs 39 = .bool ov := hq5
            intro K' hK
            simp only [setA, setT, List.setIfInBounds_toArray, List.set_cons_zero, List.set_cons_succ]
            go_simp
            refine hK.out _ (.agg #[.int .i64 z, .bool ov]) _ ?_ ?_
            · simp only [setA, setT, List.setIfInBounds_toArray, List.set_cons_zero, List.set_cons_succ, Act.put, hq4, hq5]
            · exact ⟨Ext.refl _ _, rfl⟩
          case o7 =>
            intro vs iv wk hx hf
            obtain ⟨⟨hq6, -⟩, -⟩ := hf
            have hq6 : vs 40 = .agg #[.int .i64 z, .bool ov] := hq6
            intro K' hK
            simp only [setA, setT, List.setIfInBounds_toArray, List.set_cons_zero, List.set_cons_succ]
            go_simp
            refine hK.out _ (.slice (some ⟨wk.heap.size, 0, none⟩) 1 1) _ ?_ ?_
            · simp only [setA, setT, List.setIfInBounds_toArray, List.set_cons_zero, List.set_cons_succ, Act.put, hq6]
            · exact ⟨Ext.alloc _ _, rfl, by simp, At.new _ _ _⟩
        case gR =>
          intro vs iv wx hx hap hf
          obtain ⟨⟨hv0, -⟩, -, -, -, -, -, -, ⟨⟨hv7, hhi, hA7⟩, hz7⟩, -⟩ := hf
          have hv0 : vs 34 = u := hv0
          have hv7 : vs 41 = .slice (some ⟨(iv 7).1, 0, none⟩) 1 1 := hv7
          have bx : Below Aw.heap.size Aw wx := HA3.out.trans ((((Ext.drew _).trans hx).nil).mono hz3)
          have HOWN := Lib.hid (owns_belowS HI.out.own bx)
          have HA7 : Hid (At wx (iv 7).1 #[.int .i64 z, .bool ov] 67) := Lib.hid hA7
          have hz9 := bx.size
          have HF := Lib.hid (fun (g cap : Nat) (w6 : World) (h1 : w6.ownsRow (nb + 1) 67 2 (.slice (some ⟨g, 0, none⟩) (L.length + 1) cap) (L.length + 1) (pcV L ++ [.int .i64 z, .bool ov])) (h2 : wx.grownBy w6 u.ownBlock) (h3 : u.ownBlock = some g ∨ g = wx.heap.size) (h4 : g < w6.heap.size) => CoV.next HI.out (by omega) (by omega) (by omega) bx h1 h2 h3 h4)
          have HNW := Lib.hid (World.news_of_block (cs := #[.int .i64 z, .bool ov]) (t := 67) (fr := (0, 0)) (w := wx) (B := (iv 7).1) HA7.out)
          generalize (iv 7).1 = lo at *
          clear hx hap hA7 hhi hz7 bx
          refine ⟨?_⟩
          simp only [setA, setT, List.setIfInBounds_toArray, List.set_cons_zero, List.set_cons_succ, hv0, hv7]
          refine wp_append_lies wx (.tmp 34) (.tmp 41) 25 (by rfl) (nb + 1) 67 i2 _ 2 16 Tryd.underlying25 HI2.out.1 HI2.out.2.1 HI2.out.2.2.1 HI2.out.2.2.2 rfl (by omega) u L.length (pcV L) (by rfl) HOWN.out ⟨lo, 0, none⟩ 1 1 [.int .i64 z, .bool ov] (by rfl) (by rfl) HNW.out (fun u hu => by simp at hu; rcases hu with rfl | rfl <;> rfl) (by omega) (by unfold maxLen; omega) (by omega) (by omega) wx.heap.size rfl ?_
          intro g6 cap6 w6 h1 h2 h3 h4
          have HQ := Lib.hid (HF.out g6 cap6 w6 h1 h2 h3 h4)
          have e1 := HQ.out.1.1
          have e2 := HQ.out.1.2.1
          have e3 := HQ.out.1.2.2
          clear h1 h2 h3 h4 HF HNW HOWN
          simp only [Act.put, List.setIfInBounds_toArray, List.set_cons_zero, List.set_cons_succ]
          go_simp
          refine ⟨_, ⟨_, rfl, ?_⟩, HQ.out.2.2.1, HQ.out.2.2.2⟩
          rw [HLe.out, HLL.out, List.length_append, pcV_snoc]
          exact HQ.out.2.1
    case done =>
      rintro D X WN hD hX ⟨u, rfl, hI⟩ hKD
      clear hit
      have hown : (WN.putObj D (.deferred none)).ownsRow w.heap.size 67 2 u (pcL W H f (x, y, dx, dy) K).length (pcV (pcL W H f (x, y, dx, dy) K)) :=
        owns_base (owns_blk hI.own (fun g hg => World.putObj_heap_other (fun e => (hX g (List.mem_cons_of_mem _ (ownB_mem.2 hg))).2.2 e))) (by omega)
      have HOW := Lib.hid hown
      have HI := Lib.hid hI
      have HKD := Lib.hid hKD
      have u0 : WN.cell? ⟨nb + 1 + 1, 0, none⟩ = some u := HI.out.box.cellv (i := 0) rfl
      have lu := HI.out.box.lt
      clear hI hKD hX hown
      gi_wp2
      refine ⟨by simp, .inl ⟨_, _, rfl, run_takeDeferred HKD.out, ?_⟩⟩
      refine ⟨_, ?_, ⟨u, rfl, HOW.out, HI.out.bel.grown (grownBy_putObj' WN D (.deferred none)) HI.out.bel.size (fun j e => by cases e; omega)⟩⟩
      simp [results, Tryd.results58, go_sem]
    case stop =>
      rintro D t k X hD hk h _
      exact h.elim
end Go.Proofs.YtbpdjmjkjiddjaaDoor.Base
namespace Go.Proofs.YtbpdjmjkjiddjaaDoor.Base
open Go Go.RowKit
set_option linter.unusedVariables false
set_option linter.unusedSimpArgs false
attribute [local go_sem] Oper.semAt_some

/-- a list of passes as integers: number, and 1 or 0 for over or under -/
def psF (L : List (Int × Bool)) (i : Nat) : Int := if i % 2 = 0 then (L.getD (i / 2) (0, false)).1 else if (L.getD (i / 2) (0, false)).2 then 1 else 0
theorem psF_even (L : List (Int × Bool)) (k : Nat) : psF L (k * 2) = (L.getD k (0, false)).1 := by
  unfold psF
  rw [if_pos (by omega), show k * 2 / 2 = k by omega]
theorem psF_odd (L : List (Int × Bool)) (k : Nat) : psF L (k * 2 + 1) = if (L.getD k (0, false)).2 then 1 else 0 := by
  unfold psF
  rw [if_neg (by omega), show (k * 2 + 1) / 2 = k by omega]
theorem pcV_len (L : List (Int × Bool)) : (pcV L).length = L.length * 2 := by
  induction L with
  | nil => rfl
  | cons e L ih => rw [show pcV (e :: L) = .int .i64 e.1 :: .bool e.2 :: pcV L from rfl, List.length_cons, List.length_cons, ih, List.length_cons]; omega
theorem pcV_two : ∀ (L : List (Int × Bool)) (k : Nat), k < L.length → (pcV L)[k * 2]? = some (.int .i64 (L.getD k (0, false)).1) ∧ (pcV L)[k * 2 + 1]? = some (.bool (L.getD k (0, false)).2)
  | [], k, h => absurd h (by simp)
  | e :: L, 0, _ => ⟨rfl, rfl⟩
  | e :: L, k + 1, h => by
    have h2 := pcV_two L k (by simpa using h)
    rw [show pcV (e :: L) = .int .i64 e.1 :: .bool e.2 :: pcV L from rfl, show (k + 1) * 2 = k * 2 + 1 + 1 by omega]
    simp only [List.getElem?_cons_succ, List.getD_cons_succ]
    exact h2
theorem pcV_at (L : List (Int × Bool)) {i : Nat} (h : i < L.length * 2) : (pcV L)[i]? = some (psV (psF L) i) := by
  obtain ⟨k, rfl | rfl⟩ : ∃ k, i = k * 2 ∨ i = k * 2 + 1 := ⟨i / 2, by omega⟩
  · rw [psV_even, psF_even]
    exact (pcV_two L k (by omega)).1
  · rw [psV_odd, psF_odd, (pcV_two L k (by omega)).2]
    cases (L.getD k (0, false)).2 <;> rfl
theorem pcE_wf {W H : Int} {n : Nat} {f : Nat → Int} {v : W4} (hok : okW W H n f v = true) (hx : pcX W H f v = true) : (Lit.int .i64 (pcE W H f v).1).wf = true := by
  have hwk : wkB W H n f v.1 v.2.1 v.2.2.1 v.2.2.2 = true := hok
  obtain ⟨hv, -⟩ := wk_valid hwk
  have hc : cxC W H n f (v.1 + v.2.2.1) (v.2.1 + v.2.2.2) = 0 := by
    unfold cxC
    rw [hv, (goNext hwk).1, show isX W H f (v.1 + v.2.2.1) (v.2.1 + v.2.2.2) = true from hx]
    rfl
  have h1 := (ci_at hc).1
  have h2 := zl_len f n
  obtain ⟨hW, hH, hn, -⟩ := validB_yes hv
  have h3 := inner_bd hW hH
  show (Lit.int .i64 ((zl f (numN W (v.1 + v.2.2.1) (v.2.1 + v.2.2.2)).toNat).length : Int)).wf = true
  generalize (zl f (numN W (v.1 + v.2.2.1) (v.2.1 + v.2.2.2)).toNat).length = z at h1 ⊢
  exact WalkArith.wf_i64 (by omega)
theorem pcL_wf {W H : Int} {n : Nat} {f : Nat → Int} {v : W4} (hok : okW W H n f v = true) : ∀ j, ∀ e ∈ pcL W H f v j, (Lit.int .i64 e.1).wf = true
  | 0, e, h => absurd h (by simp [pcL])
  | j + 1, e, h => by
    cases hx : pcX W H f (stps W H f j v)
    · rw [pcL_no hx] at h
      exact pcL_wf hok j e h
    · rw [pcL_yes hx] at h
      rcases List.mem_append.1 h with h | h
      · exact pcL_wf hok j e h
      · obtain rfl := List.mem_singleton.1 h
        exact pcE_wf (stps_ok hok j) hx
/-- an own list of passes is a list for the laws -/
theorem ownP_list {w : World} {base base' : Nat} {A : Option Addr} {c : Nat} {T : TypeId} {L : List (Int × Bool)} (h : w.ownsRow base T 2 (.slice A L.length c) L.length (pcV L)) (hw : ∀ e ∈ L, (Lit.int .i64 e.1).wf = true) (hb : base' ≤ base) : OwnP w base' A L.length c (psF L) := by
  have hwf : ∀ i, i < L.length → (Lit.int .i64 (psF L (i * 2))).wf = true := fun i hi => by
    rw [psF_even, List.getD_eq_getElem?_getD, List.getElem?_eq_getElem hi]
    exact hw _ (List.getElem_mem hi)
  rcases h.2 with ⟨e, h0⟩ | ⟨b, cap, cur, e, hb', hgb, hnc, hcm, hcs, ht⟩
  · injection e with e3 e4 e5
    exact ⟨by omega, by unfold maxLen; omega, hwf, fun h => absurd h (by omega)⟩
  · cases e
    refine ⟨hnc, hcm, hwf, fun hn' => ⟨b, 0, rfl, by omega, (Array.getElem?_eq_some_iff.1 hgb).1, fun i hi => ⟨?_, ?_⟩⟩⟩
    · rw [Nat.zero_add, h.cellAt i hi]
      exact pcV_at L hi
    · rw [Nat.zero_add]
      exact h.frozenAt i
/-- a list of passes and a code -/
def PsOut (L : List (Int × Bool)) (code : Int) (base : Nat) (w : World) (e : Ending) (w' : World) : Prop :=
  ∃ A c, e = .returned (.tuple #[.slice A L.length c, .int .i64 code]) ∧ OwnP w' base A L.length c (psF L) ∧ Below w.heap.size w w'
theorem ownP_nil (w : World) (base : Nat) : OwnP w base none 0 0 (psF []) := ⟨Nat.le_refl _, Nat.zero_le _, fun i hi => absurd hi (by omega), fun h => absurd h (by omega)⟩
/-- the passes of curve s -/
noncomputable def poL (W H : Int) (n : Nat) (f : Nat → Int) (s : Int) : List (Int × Bool) := if cuC W H n f s = 0 then pcL W H f (cuW W H f s.toNat) (per W H f (cuW W H f s.toNat)) else []
theorem poL_no {W H : Int} {n : Nat} {f : Nat → Int} {s : Int} (h : cuC W H n f s ≠ 0) : poL W H n f s = [] := if_neg h
theorem poL_yes {W H : Int} {n : Nat} {f : Nat → Int} {s : Int} (h : cuC W H n f s = 0) : poL W H n f s = pcL W H f (cuW W H f s.toNat) (per W H f (cuW W H f s.toNat)) := if_pos h
set_option maxHeartbeats 2000000 in
theorem impl_passesIn (w : World) (W H : Int) (A : Option Addr) (n c : Nat) (f : Nat → Int) (i0 : Nat) (hr : Row .i64 w A n c f) (hT : Cel w 0 [.int .i64 1, .int .i64 1, .int .i64 (-1), .int .i64 1, .int .i64 1, .int .i64 (-1)]) (hv : validB W H n f = true) (hk : inB (i0 : Int) 0 ((cnN W H f : Int) - 1) = true) :
    Calls Tryd.prog 17 #[.agg #[.int .i64 W, .int .i64 H, .slice A n c], .int .i64 (i0 : Int)] w (PsOut (pcL W H f (cuW W H f i0) (per W H f (cuW W H f i0))) 0 w.heap.size w) := by
  have HL := Lib.hid (show Below w.heap.size w (w.alloc (.cells #[.int .i64 W, .int .i64 H, .slice A n c] 35)) from (Below.refl _ _).alloc (Nat.le_refl _) _)
  have hcn := cnN_le hv
  obtain ⟨-, s1⟩ := in_yes hk
  have hi0 : i0 < cnN W H f := by omega
  have hok := cuW_ok hv hi0
  have HO := impl_tcIn (w.alloc (.cells #[.int .i64 W, .int .i64 H, .slice A n c] 35)) W H A n c f i0 (hr.below HL.out (Nat.le_refl _)) (hT.below HL.out hT.1) hv hk
  have hst := stl_get W H f (4 * W * H).toNat i0 hi0
  have hvd : wkr H ((trs W H f (4 * W * H).toNat).st i0) = cuW W H f i0 := rfl
  obtain ⟨M, hM⟩ : ∃ M, (4 * W * H).toNat = M := ⟨_, rfl⟩
  have hcnM : cnN W H f = (trs W H f M).cnt := by rw [← hM]; rfl
  rw [hcnM] at hi0 hcn
  rw [hM] at HO hst hvd
  obtain ⟨v, hve⟩ : ∃ v, cuW W H f i0 = v := ⟨_, rfl⟩
  rw [hve] at hok hvd ⊢
  have HWF := Lib.hid (pcL_wf hok (per W H f v))
  obtain ⟨x, y, dx, dy⟩ := v
  have e1 : wtX H ((trs W H f M).st i0) = x := congrArg (fun u : W4 => u.1) hvd
  have e2 : wtY H ((trs W H f M).st i0) = y := congrArg (fun u : W4 => u.2.1) hvd
  have e3 : 1 = dx := congrArg (fun u : W4 => u.2.2.1) hvd
  have e4 : wtD H ((trs W H f M).st i0) = dy := congrArg (fun u : W4 => u.2.2.2) hvd
  rw [e1, e2, e3, e4] at hst
  have HPS := Lib.hid (fun (w9 : World) (Ac : Option Addr) (gu cu mc cc : Nat) (h1 : Row .i64 w9 A n c f) (h2 : Cel w9 0 [.int .i64 1, .int .i64 1, .int .i64 (-1), .int .i64 1, .int .i64 1, .int .i64 (-1)]) (h3 : gu < w9.heap.size) (h4 : w9.cell? ⟨gu, i0 * 4, none⟩ = some (.int .i64 x) ∧ w9.cell? ⟨gu, i0 * 4 + 1, none⟩ = some (.int .i64 y) ∧ w9.cell? ⟨gu, i0 * 4 + 2, none⟩ = some (.int .i64 dx) ∧ w9.cell? ⟨gu, i0 * 4 + 3, none⟩ = some (.int .i64 dy)) =>
    impl_passes w9 W H A Ac n c gu (trs W H f M).cnt cu mc cc i0 f x y dx dy h1 h2 hv hok hi0 hcn h3 h4.1 h4.2.1 h4.2.2.1 h4.2.2.2)
  obtain ⟨L, hLe⟩ : ∃ L, pcL W H f (x, y, dx, dy) (per W H f (x, y, dx, dy)) = L := ⟨_, rfl⟩
  rw [hLe] at HPS HWF ⊢
  have HO := Lib.hid HO
  have HS := Lib.hid hst
  have HR := Lib.hid hr
  have HT := Lib.hid hT
  clear hr hT hv hk hst hvd e1 e2 e3 e4 hM hve hok hcnM s1 hLe
  go_enter Tryd.func17, Tryd.ntmps17
  go_wp2_with fail
  refine HO.out.mono ?_
  rintro e w1 ⟨Au, cu, cv, rfl, h1, h2, h3, c1⟩
  have HB1 := Lib.hid (HL.out.trans (c1.mono (by first | exact Nat.le_refl _ | (simp; done) | (simp; omega) | omega)))
  obtain ⟨gu, capu, eu, gu1, gu2⟩ := h1.form (by omega)
  simp only [Value.slice.injEq] at eu
  obtain ⟨rfl, -, rfl⟩ := eu
  have HU := Lib.hid h1
  clear c1 h1 h2 h3 HO HL gu1
  go_wp2_with fail
  obtain ⟨w3, hw3⟩ : ∃ w3, w1.alloc (.cells #[.int .i64 W, .int .i64 H, .slice A n c, .slice (some ⟨gu, 0, none⟩) (trs W H f M).cnt cu, .slice (some ⟨cv, 0, none⟩) M M] 84) = w3 := ⟨_, rfl⟩
  have X2 : Below w1.heap.size w1 w3 := by rw [← hw3]; exact (Below.refl w1.heap.size w1).alloc (Nat.le_refl _) _
  have HB3 := Lib.hid (HB1.out.trans (X2.mono HB1.out.size))
  have HU3 := Lib.hid (owns_belowS HU.out X2)
  have hz3 := X2.size
  rw [hw3]
  clear hw3 HU X2
  refine (HPS.out _ _ gu _ _ _ (HR.out.below HB3.out (Nat.le_refl _)) (HT.out.below HB3.out HT.out.1) (by omega) ⟨(HU3.out.cellAt (i0 * 4) (by omega)).trans HS.out.1, (HU3.out.cellAt (i0 * 4 + 1) (by omega)).trans HS.out.2.1, (HU3.out.cellAt (i0 * 4 + 2) (by omega)).trans HS.out.2.2.1, (HU3.out.cellAt (i0 * 4 + 3) (by omega)).trans HS.out.2.2.2⟩).mono ?_
  rintro e w4 ⟨u, rfl, h4, b4⟩
  obtain ⟨A4, c4, rfl⟩ := owns_slice h4
  have HO4 := Lib.hid (ownP_list h4 HWF.out (base' := w.heap.size) HB3.out.size)
  have HB4 := Lib.hid (HB3.out.trans (b4.mono HB3.out.size))
  clear h4 b4
  go_wp2
  go_ret2
  exact ⟨A4, c4, rfl, HO4.out, HB4.out⟩
theorem impl_passesOf (w : World) (W H : Int) (A : Option Addr) (n c : Nat) (f : Nat → Int) (s : Int) (hr : Row .i64 w A n c f) (hT : Cel w 0 [.int .i64 1, .int .i64 1, .int .i64 (-1), .int .i64 1, .int .i64 1, .int .i64 (-1)]) :
    Calls Tryd.prog 17 #[.agg #[.int .i64 W, .int .i64 H, .slice A n c], .int .i64 s] w (PsOut (poL W H n f s) (cuC W H n f s) w.heap.size w) := by
  cases hv : validB W H n f
  · rw [poL_no (by rw [cu_bad hv]; omega), cu_bad hv]
    have HL := Lib.hid (show Below w.heap.size w (w.alloc (.cells #[.int .i64 W, .int .i64 H, .slice A n c] 35)) from (Below.refl _ _).alloc (Nat.le_refl _) _)
    have HC := Lib.hid (impl_tcBad (w.alloc (.cells #[.int .i64 W, .int .i64 H, .slice A n c] 35)) W H A n c f s (hr.below HL.out (Nat.le_refl _)) hv)
    clear hr hT hv
    go_enter Tryd.func17, Tryd.ntmps17
    go_wp2_with fail
    refine HC.out.mono ?_
    rintro e w1 ⟨rfl, b1⟩
    go_wp2
    go_ret2
    exact ⟨none, 0, rfl, ownP_nil _ _, (HL.out.trans (b1.mono (by first | exact Nat.le_refl _ | (simp; done) | (simp; omega) | omega))).alloc (Nat.le_trans HL.out.size b1.size) _⟩
  · cases hk : inB s 0 ((cnN W H f : Int) - 1)
    · rw [poL_no (by rw [cu_out hv hk]; omega), cu_out hv hk]
      have HL := Lib.hid (show Below w.heap.size w (w.alloc (.cells #[.int .i64 W, .int .i64 H, .slice A n c] 35)) from (Below.refl _ _).alloc (Nat.le_refl _) _)
      have HC := Lib.hid (impl_tcOut (w.alloc (.cells #[.int .i64 W, .int .i64 H, .slice A n c] 35)) W H A n c f s (hr.below HL.out (Nat.le_refl _)) (hT.below HL.out hT.1) hv hk)
      clear hr hT hv hk
      go_enter Tryd.func17, Tryd.ntmps17
      go_wp2_with fail
      refine HC.out.mono ?_
      rintro e w1 ⟨rfl, b1⟩
      go_wp2
      go_ret2
      exact ⟨none, 0, rfl, ownP_nil _ _, (HL.out.trans (b1.mono (by first | exact Nat.le_refl _ | (simp; done) | (simp; omega) | omega))).alloc (Nat.le_trans HL.out.size b1.size) _⟩
    · rw [poL_yes (cu_in hv hk), cu_in hv hk]
      obtain ⟨s0, s1⟩ := in_yes hk
      obtain ⟨i0, rfl⟩ : ∃ i0 : Nat, s = i0 := ⟨s.toNat, by omega⟩
      exact impl_passesIn w W H A n c f i0 hr hT hv hk
end Go.Proofs.YtbpdjmjkjiddjaaDoor.Base
namespace Go.Proofs.YtbpdjmjkjiddjaaDoor.Base
open Go Go.RowKit
set_option linter.unusedVariables false
set_option linter.unusedSimpArgs false

/-- what stands in the loop: the walker v, the passes L -/
structure PsAt (vs : List Value) (B b : Nat) (W0 : World) (m : Nat) (xs : List Value) (u : Value) (wr : World) : Prop where
  box : At wr b vs.toArray 131
  own : wr.ownsRow B 67 2 u m xs
  far : u.ownBlock ≠ some b
  below : Below B W0 wr
theorem PsAt.b {vs : List Value} {B b : Nat} {W0 : World} {m : Nat} {xs : List Value} {u : Value} {wr wa : World} (h : PsAt vs B b W0 m xs u wr) (hB : B ≤ wr.heap.size) (hb : Below wr.heap.size wr wa) : PsAt vs B b W0 m xs u wa :=
  ⟨h.box.below hb h.box.lt, owns_belowS h.own hb, h.far, h.below.trans (hb.mono hB)⟩
set_option maxRecDepth 100000 in
set_option maxHeartbeats 2000000 in
theorem spec_passes (w : World) (p : Nat) (W H : Int) (A : Option Addr) (n c : Nat) (f : Nat → Int) (x y dx dy : Int) (hb : Box w p W H A n c) (hr : Row .i64 w A n c f) (hw : okW W H n f (x, y, dx, dy) = true) (N : Nat) (hN : IsPer W H f (x, y, dx, dy) N) :
    Calls Tryd.prog 93 #[.pointer (some ⟨p, 0, none⟩), .agg #[.int .i64 x, .int .i64 y, .int .i64 dx, .int .i64 dy]] w (PssMade (pcL W H f (x, y, dx, dy) N) w) := by
  have HL := Lib.hid (show Below w.heap.size w (w.alloc (.cells #[.int .i64 x, .int .i64 y, .int .i64 dx, .int .i64 dy] 131)) from (Below.refl _ _).alloc (Nat.le_refl _) _)
  have HR := Lib.hid hr
  have HX := Lib.hid hb
  have HWK := Lib.hid hw
  have HN := Lib.hid hN
  clear hr hb hw hN
  obtain ⟨i2, hi2, hz0, hz1, hz2⟩ := info_parts infoPass
  have HI2 := Lib.hid (And.intro hi2 (And.intro hz0 (And.intro hz1 hz2)))
  clear hi2 hz0 hz1 hz2
  go_enter Tryd.func93, Tryd.ntmps93
  go_wp2
  go_loopw [5, 7] (fun u5 u7 wr => ∃ j : Nat, u7 = .int .i64 (j : Int) ∧ j ≤ N ∧ Hid (PsAt (cs4 (stps W H f j (x, y, dx, dy))) (w.heap.size + 1) (w.heap.size + 1 + 1) (w.alloc (.cells #[.int .i64 x, .int .i64 y, .int .i64 dx, .int .i64 dy] 131)) (pcL W H f (x, y, dx, dy) j).length (pcV (pcL W H f (x, y, dx, dy) j)) u5 wr)) (fun _ u7 _ => 1200 - (intOf u7).toNat)
  case atStart =>
    refine ⟨0, rfl, Nat.zero_le _, Lib.hid ⟨At.newAt (by simp), ?_, by simp [Value.ownBlock], ?_⟩⟩
    · exact owns_belowS (owns_new0 (by simp) (Nat.le_refl _)) ((Below.refl _ _).alloc (Nat.le_refl _) _)
    · exact ((Below.refl _ _).alloc (by simp) _).alloc (by first | exact Nat.le_refl _ | (simp; done) | (simp; omega) | omega) _
  case round =>
    obtain ⟨j, rfl, hj, HT⟩ := hrel
    obtain ⟨A6, c6, rfl⟩ := owns_slice HT.out.own
    have hok := stps_ok HWK.out j
    have hno := @pcL_no W H f (x, y, dx, dy) j
    have hyes := @pcL_yes W H f (x, y, dx, dy) j
    have hlen := pcL_len W H f (x, y, dx, dy) j
    obtain ⟨v, hv⟩ : ∃ v, v = stps W H f j (x, y, dx, dy) := ⟨_, rfl⟩
    rw [← hv] at hok HT hno hyes
    have HNO := Lib.hid hno
    have HYE := Lib.hid hyes
    have hwk : wkB W H n f v.1 v.2.1 v.2.2.1 v.2.2.2 = true := hok
    obtain ⟨hvd, -⟩ := wk_valid hwk
    have HVD := Lib.hid hvd
    obtain ⟨hW, hH, x1, x2, y1, y2, g1, g2⟩ := goW hok
    obtain ⟨h4, x3, x4, y3, y4⟩ := goNext hok
    obtain ⟨hn, hK⟩ := goAll hok
    have H4 := Lib.hid h4
    have k0 : wr.cell? ⟨w.heap.size + 1 + 1, 0, none⟩ = some (.int .i64 v.1) := HT.out.box.cellv (i := 0) rfl
    have k1 : wr.cell? ⟨w.heap.size + 1 + 1, 1, none⟩ = some (.int .i64 v.2.1) := HT.out.box.cellv (i := 1) rfl
    have k2 : wr.cell? ⟨w.heap.size + 1 + 1, 2, none⟩ = some (.int .i64 v.2.2.1) := HT.out.box.cellv (i := 2) rfl
    have k3 : wr.cell? ⟨w.heap.size + 1 + 1, 3, none⟩ = some (.int .i64 v.2.2.2) := HT.out.box.cellv (i := 3) rfl
    have HQ : At wr w.heap.size #[.int .i64 x, .int .i64 y, .int .i64 dx, .int .i64 dy] 131 := (At.newAt rfl).below HT.out.below (by omega)
    have q0 : wr.cell? ⟨w.heap.size, 0, none⟩ = some (.int .i64 x) := HQ.cellv (i := 0) rfl
    have q1 : wr.cell? ⟨w.heap.size, 1, none⟩ = some (.int .i64 y) := HQ.cellv (i := 1) rfl
    have q2 : wr.cell? ⟨w.heap.size, 2, none⟩ = some (.int .i64 dx) := HQ.cellv (i := 2) rfl
    have q3 : wr.cell? ⟨w.heap.size, 3, none⟩ = some (.int .i64 dy) := HQ.cellv (i := 3) rfl
    have hzb := HT.out.box.lt
    have hzw := HQ.lt
    have HV := Lib.hid hv
    have HNn := Lib.hid hn
    clear HQ hv hn hno hyes hwk hvd h4
    by_cases hlt : j < N
    · go_upto_region 4 with (fail)
      go_cut [17] (fun s17 wx => s17 = .bool true ∧ wr = wx)
      case first =>
        rcases Nat.eq_zero_or_pos j with h0 | h0
        · have j0 : ((j : Int) == 0) = true := by simp; omega
          go_wp2_with fail
          go_meet
          exact ⟨rfl, rfl⟩
        · have j0 : ((j : Int) == 0) = false := by simp; omega
          go_wp2_with fail
          all_goals first
            | (go_meet; exact ⟨rfl, rfl⟩)
            | (exfalso; exact HN.out.2.2.2 j (by omega) hlt (by rw [← HV.out]; simp [Prod.ext_iff, *]))
      case rest =>
        obtain ⟨rfl, rfl⟩ := hcut
        clear q0 q1 q2 q3
        go_wp2_with fail
        refine (specNext wr v.1 v.2.1 v.2.2.1 v.2.2.2 x1 x2 y1 y2 g1 g2).mono ?_
        rintro e w1 ⟨rfl, b1⟩
        have HT1 := Lib.hid (HT.out.b (by omega) b1)
        have hz1 := b1.size
        have ES := Lib.hid (show stps W H f (j + 1) (x, y, dx, dy) = stp W H f v from congrArg (stp W H f) HV.out.symm)
        obtain ⟨L', hL'⟩ : ∃ L', pcL W H f (x, y, dx, dy) (j + 1) = L' := ⟨_, rfl⟩
        obtain ⟨L, hL⟩ : ∃ L, pcL W H f (x, y, dx, dy) j = L := ⟨_, rfl⟩
        rw [hL] at HT1 HNO HYE hlen ⊢
        rw [hL'] at HNO HYE
        have HL' := Lib.hid hL'
        have hci : isX W H f (v.1 + v.2.2.1) (v.2.1 + v.2.2.2) = true → cxC W H n f (v.1 + v.2.2.1) (v.2.1 + v.2.2.2) = 0 := fun h => by unfold cxC; rw [HVD.out, H4.out, h]; rfl
        have HCI := Lib.hid hci
        have hNb : N ≤ 1156 := HN.out.2.1
        obtain ⟨b, hbe⟩ : ∃ b, w.heap.size + 1 + 1 = b := ⟨_, rfl⟩
        have hbB : w.heap.size + 1 ≤ b := by omega
        clear k0 k1 k2 k3 b1 HT hL hL' hci
        rw [hbe] at HT1 hzb ⊢
        have HBE := Lib.hid hbe
        clear hbe
        have k0 : w1.cell? ⟨b, 0, none⟩ = some (.int .i64 v.1) := HT1.out.box.cellv (i := 0) rfl
        go_wp2_with fail
        obtain ⟨w1b, hwb⟩ : ∃ w1b, w1.alloc (.cells #[.int .i64 (v.1 + v.2.2.1), .int .i64 (v.2.1 + v.2.2.2)] 61) = w1b := ⟨_, rfl⟩
        obtain ⟨pt, hpt⟩ : ∃ pt, w1.heap.size = pt := ⟨_, rfl⟩
        have HPT : Hid (At w1b pt #[.int .i64 (v.1 + v.2.2.1), .int .i64 (v.2.1 + v.2.2.2)] 61) := Lib.hid (by rw [← hwb, ← hpt]; exact At.new _ _ _)
        have HFP : Hid ((Value.slice A6 L.length c6).ownBlock ≠ some pt) := Lib.hid (fun e => by have := (HT1.out.own.lt pt e).2; omega)
        have HTb := Lib.hid (HT1.out.b (by omega) (show Below w1.heap.size w1 w1b by rw [← hwb]; exact (Below.refl _ _).alloc (Nat.le_refl _) _))
        rw [hwb, hpt]
        clear hwb hpt k0 HT1
        have FB1 := Lib.hid (HL.out.trans (HTb.out.below.mono (Nat.le_succ _)))
        have p0 : w1b.cell? ⟨pt, 0, none⟩ = some (.int .i64 (v.1 + v.2.2.1)) := HPT.out.cellv (i := 0) rfl
        have p1 : w1b.cell? ⟨pt, 1, none⟩ = some (.int .i64 (v.2.1 + v.2.2.2)) := HPT.out.cellv (i := 1) rfl
        have lpt := HPT.out.lt
        have hFz := FB1.out.size
        have hTz := HTb.out.box.lt
        have hBz : w.heap.size + 1 ≤ w1b.heap.size := by omega
        first | done | skip
        refine (spec_isX w1b p W H A n c f (v.1 + v.2.2.1) (v.2.1 + v.2.2.2) (HX.out.below FB1.out HX.out.1) (HR.out.below FB1.out (Nat.le_refl _)) HVD.out H4.out).mono ?_
        rintro e w2 ⟨rfl, b2⟩
        have HT2 := Lib.hid (HTb.out.b hBz b2)
        have HP2 := Lib.hid (HPT.out.below b2 HPT.out.lt)
        have hz2 := b2.size
        clear b2 HTb HPT FB1 p0 p1
        obtain ⟨xb, hxb⟩ : ∃ xb, isX W H f (v.1 + v.2.2.1) (v.2.1 + v.2.2.2) = xb := ⟨_, rfl⟩
        have HNO2 : Hid (xb = false → L' = L) := Lib.hid (fun h => HNO.out (show isX W H f (v.1 + v.2.2.1) (v.2.1 + v.2.2.2) = false by rw [hxb, h]))
        have HYE2 : Hid (xb = true → L' = L ++ [pcE W H f v]) := Lib.hid (fun h => HYE.out (show isX W H f (v.1 + v.2.2.1) (v.2.1 + v.2.2.2) = true by rw [hxb, h]))
        rw [hxb] at HCI ⊢
        clear hxb HNO HYE
        cases xb
        · have EL : Hid (pcL W H f (x, y, dx, dy) (j + 1) = L) := Lib.hid (HL'.out.trans (HNO2.out rfl))
          have KT := Lib.hid HT2.out.box
          have OT := Lib.hid HT2.out.own
          have FT := Lib.hid HT2.out.far
          have BT := Lib.hid HT2.out.below
          clear HT2 HP2 HCI HNO2 HYE2
          have hT2z := OT.out
          have FBx := Lib.hid (HL.out.trans (BT.out.mono (Nat.le_succ _)))
          have k0 : w2.cell? ⟨b, 0, none⟩ = some (.int .i64 v.1) := KT.out.cellv (i := 0) rfl
          have k1 : w2.cell? ⟨b, 1, none⟩ = some (.int .i64 v.2.1) := KT.out.cellv (i := 1) rfl
          have k2 : w2.cell? ⟨b, 2, none⟩ = some (.int .i64 v.2.2.1) := KT.out.cellv (i := 2) rfl
          have k3 : w2.cell? ⟨b, 3, none⟩ = some (.int .i64 v.2.2.2) := KT.out.cellv (i := 3) rfl
          have lb := KT.out.lt
          clear hT2z
          go_wp2_with fail
          refine (specStep w2 p W H A n c f v.1 v.2.1 v.2.2.1 v.2.2.2 (HX.out.below FBx.out HX.out.1) (HR.out.below FBx.out (Nat.le_refl _)) HNn.out hK hW hH x1 x2 y1 y2 g1 g2 H4.out).mono ?_
          rintro e w5 ⟨rfl, b5⟩
          have GO := Lib.hid (owns_belowS OT.out b5)
          have GB := Lib.hid (BT.out.trans (b5.mono (by omega)))
          have GX := Lib.hid (KT.out.below b5 KT.out.lt)
          clear b5 OT BT KT FBx k0 k1 k2 k3 lb
          have k0 : w5.cell? ⟨b, 0, none⟩ = some (.int .i64 v.1) := GX.out.cellv (i := 0) rfl
          have k1 : w5.cell? ⟨b, 1, none⟩ = some (.int .i64 v.2.1) := GX.out.cellv (i := 1) rfl
          have k2 : w5.cell? ⟨b, 2, none⟩ = some (.int .i64 v.2.2.1) := GX.out.cellv (i := 2) rfl
          have k3 : w5.cell? ⟨b, 3, none⟩ = some (.int .i64 v.2.2.2) := GX.out.cellv (i := 3) rfl
          have f0 := GX.out.frozen 0
          have f1 := GX.out.frozen 1
          have f2 := GX.out.frozen 2
          have f3 := GX.out.frozen 3
          have hzq := GX.out.lt
          go_wp2
          obtain rfl := HBE.out
          go_roundw
          case rel =>
            refine ⟨j + 1, by go_num, hlt, Lib.hid ⟨?_, ?_, FT.out, ?_⟩⟩
            · rw [ES.out]
              exact at_set4 GX.out rfl
            · rw [EL.out]
              exact owns_set (owns_set (owns_set (owns_set GO.out (a := ⟨w.heap.size + 1 + 1, 0, none⟩) FT.out _) (a := ⟨w.heap.size + 1 + 1, 1, none⟩) FT.out _) (a := ⟨w.heap.size + 1 + 1, 2, none⟩) FT.out _) (a := ⟨w.heap.size + 1 + 1, 3, none⟩) FT.out _
            · exact (((GB.out.setCell (p := ⟨w.heap.size + 1 + 1, 0, none⟩) hbB _).setCell (p := ⟨w.heap.size + 1 + 1, 1, none⟩) hbB _).setCell (p := ⟨w.heap.size + 1 + 1, 2, none⟩) hbB _).setCell (p := ⟨w.heap.size + 1 + 1, 3, none⟩) hbB _
          case measure => simp [intOf]; omega
        · have HEL := Lib.hid (HYE2.out rfl)
          have hc : cxC W H n f (v.1 + v.2.2.1) (v.2.1 + v.2.2.2) = 0 := HCI.out rfl
          have HC := Lib.hid hc
          have KT := Lib.hid HT2.out.box
          have HO := Lib.hid HT2.out.own
          have FT0 := Lib.hid HT2.out.far
          have BT0 := Lib.hid HT2.out.below
          have FB2 := Lib.hid (HL.out.trans (BT0.out.mono (Nat.le_succ _)))
          have hle2 : w.heap.size ≤ w2.heap.size := FB2.out.size
          have hBz2 : w.heap.size + 1 ≤ w2.heap.size := by omega
          have hgb := HO.out.lt
          have HGB := Lib.hid hgb
          have FP : Hid ((Value.slice A6 L.length c6).ownBlock ≠ some pt) := Lib.hid HFP.out
          have hzk := KT.out.lt
          have hzp := HP2.out.lt
          clear HT2 HCI HNO2 HYE2 hc hgb
          have k0 : w2.cell? ⟨b, 0, none⟩ = some (.int .i64 v.1) := KT.out.cellv (i := 0) rfl
          have k1 : w2.cell? ⟨b, 1, none⟩ = some (.int .i64 v.2.1) := KT.out.cellv (i := 1) rfl
          have k2 : w2.cell? ⟨b, 2, none⟩ = some (.int .i64 v.2.2.1) := KT.out.cellv (i := 2) rfl
          have k3 : w2.cell? ⟨b, 3, none⟩ = some (.int .i64 v.2.2.2) := KT.out.cellv (i := 3) rfl
          have m0 : w2.cell? ⟨pt, 0, none⟩ = some (.int .i64 (v.1 + v.2.2.1)) := HP2.out.cellv (i := 0) rfl
          have m1 : w2.cell? ⟨pt, 1, none⟩ = some (.int .i64 (v.2.1 + v.2.2.2)) := HP2.out.cellv (i := 1) rfl
          obtain ⟨z, hz⟩ : ∃ z : Nat, (zl f (numN W (v.1 + v.2.2.1) (v.2.1 + v.2.2.2)).toNat).length = z := ⟨_, rfl⟩
          obtain ⟨ov, hov⟩ : ∃ ov, ovW v.1 v.2.2.1 v.2.2.2 = ov := ⟨_, rfl⟩
          have HIX := Lib.hid (fun (w9 : World) (h1 : Below w2.heap.size w2 w9) => (by have h := spec_index w9 p W H A n c f (v.1 + v.2.2.1) (v.2.1 + v.2.2.2) (HX.out.below (FB2.out.trans (h1.mono hle2)) HX.out.1) (HR.out.below (FB2.out.trans (h1.mono hle2)) (Nat.le_refl _)) HC.out; rw [hz] at h; exact h : Calls Tryd.prog 134 #[.pointer (some ⟨p, 0, none⟩), .agg #[.int .i64 (v.1 + v.2.2.1), .int .i64 (v.2.1 + v.2.2.2)]] w9 (Gives (.int .i64 (z : Int)) w9)))
          have HOV := Lib.hid (fun (w9 : World) => (by have h := over_spec w9 v.1 v.2.1 v.2.2.1 v.2.2.2 x1 x2 y1 y2 g1 g2 x3 x4; rw [hov] at h; exact h : Calls Tryd.prog 135 #[.agg #[.int .i64 v.1, .int .i64 v.2.1, .int .i64 v.2.2.1, .int .i64 v.2.2.2]] w9 (Gives (.bool ov) w9)))
          have HEL : Hid (L' = L ++ [((z : Int), ov)]) := Lib.hid (by rw [HEL.out]; unfold pcE; rw [hz, hov])
          clear hz hov
          have hLz : L.length ≤ 1156 := by omega
          go_wp2_with fail
          go_region_held3 (fun w' => w'.cell? ⟨b, 0, none⟩ = some (.int .i64 v.1) ∧ w'.cell? ⟨b, 1, none⟩ = some (.int .i64 v.2.1) ∧ w'.cell? ⟨b, 2, none⟩ = some (.int .i64 v.2.2.1) ∧ w'.cell? ⟨b, 3, none⟩ = some (.int .i64 v.2.2.2) ∧ w'.cell? ⟨pt, 0, none⟩ = some (.int .i64 (v.1 + v.2.2.1)) ∧ w'.cell? ⟨pt, 1, none⟩ = some (.int .i64 (v.2.1 + v.2.2.2)))
            (first | exact ⟨r0, r1, r2, r3, r4, r5⟩ | exact ⟨t0, t1, t2, t3, t4, t5⟩ | exact ⟨s0, s1, s2, s3, s4, s5⟩ | exact ⟨q0, q1, q2, q3, q4, q5⟩ | exact ⟨k0, k1, k2, k3, m0, m1⟩ | go_keep | (simp [go_sem]; done))
            (first
              | (go_at_call 134; refine (HIX.out _ (Below.refl w2.heap.size w2).drew).mono ?_; rintro e wa ⟨rfl, ba⟩; have HA := Lib.hid ((Below.refl w2.heap.size w2).drew.trans ba); have KA := Lib.hid (KT.out.below HA.out hzk); have PA := Lib.hid (HP2.out.below HA.out hzp); have q0 := KA.out.cellv (i := 0) rfl; have q1 := KA.out.cellv (i := 1) rfl; have q2 := KA.out.cellv (i := 2) rfl; have q3 := KA.out.cellv (i := 3) rfl; have q4 := PA.out.cellv (i := 0) rfl; have q5 := PA.out.cellv (i := 1) rfl; have la1 := KA.out.lt; have la2 := PA.out.lt; clear ba)
              | (go_at_call 135; refine (HOV.out _).mono ?_; rintro e wb ⟨rfl, bb⟩; have HBB := Lib.hid (HA.out.trans (bb.mono HA.out.size)); have KB := Lib.hid (KT.out.below HBB.out hzk); have PB := Lib.hid (HP2.out.below HBB.out hzp); have s0 := KB.out.cellv (i := 0) rfl; have s1 := KB.out.cellv (i := 1) rfl; have s2 := KB.out.cellv (i := 2) rfl; have s3 := KB.out.cellv (i := 3) rfl; have s4 := PB.out.cellv (i := 0) rfl; have s5 := PB.out.cellv (i := 1) rfl; have lb1 := KB.out.lt; have lb2 := PB.out.lt; have AL := Lib.hid ((Below.refl wb.heap.size wb).alloc (Nat.le_refl _) (.cells #[.int .i64 (z : Int), .bool ov] 67)); have KD := Lib.hid (KB.out.below AL.out lb1); have PD := Lib.hid (PB.out.below AL.out lb2); have t0 := KD.out.cellv (i := 0) rfl; have t1 := KD.out.cellv (i := 1) rfl; have t2 := KD.out.cellv (i := 2) rfl; have t3 := KD.out.cellv (i := 3) rfl; have t4 := PD.out.cellv (i := 0) rfl; have t5 := PD.out.cellv (i := 1) rfl; have hza := HBB.out.size; clear bb)
              | (refine step_append_lies _ (by rfl) _ _ _ (by rfl) (w.heap.size + 1) 67 i2 _ 2 16 Tryd.underlying25 HI2.out.1 HI2.out.2.1 HI2.out.2.2.1 HI2.out.2.2.2 rfl (by omega) (.slice A6 L.length c6) L.length (pcV L) (by rfl) (by first | exact owns_belowS (owns_belowS HO.out HBB.out) AL.out | exact (owns_belowS (owns_belowS HO.out HBB.out) AL.out).drew) ⟨wb.heap.size, 0, none⟩ 1 1 [.int .i64 (z : Int), .bool ov] (by rfl) (by rfl) (World.news_of_block (cs := #[.int .i64 (z : Int), .bool ov]) (t := 67) (fr := (0, 0)) (heap_alloc_new wb _)) (fun u hu => by simp at hu; rcases hu with rfl | rfl <;> rfl) (by omega) (by unfold maxLen; omega) (by omega) (by simp; omega) (wb.heap.size + 1) (by simp) ?_; intro gg cap w6 hown1 hgrow hat hlt1; have KC := Lib.hid (KD.out.grown hgrow (fun e => FT0.out e.symm)); have PC := Lib.hid (PD.out.grown hgrow (fun e => FP.out e.symm)); have r0 := KC.out.cellv (i := 0) rfl; have r1 := KC.out.cellv (i := 1) rfl; have r2 := KC.out.cellv (i := 2) rfl; have r3 := KC.out.cellv (i := 3) rfl; have r4 := PC.out.cellv (i := 0) rfl; have r5 := PC.out.cellv (i := 1) rfl))
          have FT : Hid ((Value.slice (some ⟨gg, 0, none⟩) (L.length + 1) cap).ownBlock ≠ some b) := Lib.hid (fun e => by
            have e1 : gg = b := by simpa [Value.ownBlock] using e
            subst e1
            rcases hat with hat | hat
            · exact FT0.out hat
            · omega)
          have OT := Lib.hid hown1
          have BT := Lib.hid (((BT0.out.trans (HBB.out.mono hBz2)).trans (AL.out.mono (Nat.le_trans hBz2 hza))).grown hgrow (by simp; omega) (fun b' e => (HGB.out b' e).1))
          have KT := Lib.hid KC.out
          have EL : Hid (pcL W H f (x, y, dx, dy) (j + 1) = L ++ [((z : Int), ov)]) := Lib.hid (HL'.out.trans HEL.out)
          clear hown1 hgrow hat q0 q1 q2 q3 q4 q5 s0 s1 s2 s3 s4 s5 t0 t1 t2 t3 t4 t5 r0 r1 r2 r3 r4 r5 k0 k1 k2 k3 m0 m1
          have hT2z := OT.out
          have FBx := Lib.hid (HL.out.trans (BT.out.mono (Nat.le_succ _)))
          have k0 : w6.cell? ⟨b, 0, none⟩ = some (.int .i64 v.1) := KT.out.cellv (i := 0) rfl
          have k1 : w6.cell? ⟨b, 1, none⟩ = some (.int .i64 v.2.1) := KT.out.cellv (i := 1) rfl
          have k2 : w6.cell? ⟨b, 2, none⟩ = some (.int .i64 v.2.2.1) := KT.out.cellv (i := 2) rfl
          have k3 : w6.cell? ⟨b, 3, none⟩ = some (.int .i64 v.2.2.2) := KT.out.cellv (i := 3) rfl
          have lb := KT.out.lt
          clear hT2z
          go_wp2_with fail
          refine (specStep w6 p W H A n c f v.1 v.2.1 v.2.2.1 v.2.2.2 (HX.out.below FBx.out HX.out.1) (HR.out.below FBx.out (Nat.le_refl _)) HNn.out hK hW hH x1 x2 y1 y2 g1 g2 H4.out).mono ?_
          rintro e w5 ⟨rfl, b5⟩
          have GO := Lib.hid (owns_belowS OT.out b5)
          have GB := Lib.hid (BT.out.trans (b5.mono (by omega)))
          have GX := Lib.hid (KT.out.below b5 KT.out.lt)
          clear b5 OT BT KT FBx k0 k1 k2 k3 lb
          have k0 : w5.cell? ⟨b, 0, none⟩ = some (.int .i64 v.1) := GX.out.cellv (i := 0) rfl
          have k1 : w5.cell? ⟨b, 1, none⟩ = some (.int .i64 v.2.1) := GX.out.cellv (i := 1) rfl
          have k2 : w5.cell? ⟨b, 2, none⟩ = some (.int .i64 v.2.2.1) := GX.out.cellv (i := 2) rfl
          have k3 : w5.cell? ⟨b, 3, none⟩ = some (.int .i64 v.2.2.2) := GX.out.cellv (i := 3) rfl
          have f0 := GX.out.frozen 0
          have f1 := GX.out.frozen 1
          have f2 := GX.out.frozen 2
          have f3 := GX.out.frozen 3
          have hzq := GX.out.lt
          go_wp2
          obtain rfl := HBE.out
          go_roundw
          case rel =>
            refine ⟨j + 1, by go_num, hlt, Lib.hid ⟨?_, ?_, FT.out, ?_⟩⟩
            · rw [ES.out]
              exact at_set4 GX.out rfl
            · rw [EL.out, List.length_append, pcV_snoc]
              exact owns_set (owns_set (owns_set (owns_set GO.out (a := ⟨w.heap.size + 1 + 1, 0, none⟩) FT.out _) (a := ⟨w.heap.size + 1 + 1, 1, none⟩) FT.out _) (a := ⟨w.heap.size + 1 + 1, 2, none⟩) FT.out _) (a := ⟨w.heap.size + 1 + 1, 3, none⟩) FT.out _
            · exact (((GB.out.setCell (p := ⟨w.heap.size + 1 + 1, 0, none⟩) hbB _).setCell (p := ⟨w.heap.size + 1 + 1, 1, none⟩) hbB _).setCell (p := ⟨w.heap.size + 1 + 1, 2, none⟩) hbB _).setCell (p := ⟨w.heap.size + 1 + 1, 3, none⟩) hbB _
          case measure => simp [intOf]; omega
    · have ej : j = N := by omega
      have hjp : 0 < j := by have := HN.out.1; omega
      have j0 : ((j : Int) == 0) = false := by simp; omega
      have ev : v = (x, y, dx, dy) := by rw [HV.out, ej]; exact HN.out.2.2.1
      subst ev
      simp only at k0 k1 k2 k3
      go_wp2
      go_ret
      rw [ej] at HT
      exact ⟨_, rfl, owns_base HT.out.own (Nat.le_succ _), HL.out.trans (HT.out.below.mono (Nat.le_succ _))⟩
end Go.Proofs.YtbpdjmjkjiddjaaDoor.Base
namespace Go.Proofs.YtbpdjmjkjiddjaaDoor.Base
open Go.RowKit
set_option linter.unusedVariables false

theorem bkw_bkw (v : W4) : bkw (bkw v) = v := by
  obtain ⟨x, y, dx, dy⟩ := v
  simp only [bkw, Prod.mk.injEq]
  omega
theorem low_back {a d : Int} (h : d = 1 ∨ d = -1) : lowI (a + d) (-d) = lowI a d := by
  rcases h with rfl | rfl
  · unfold lowI; rw [if_neg (by omega), if_pos rfl]; omega
  · unfold lowI; rw [if_pos (by omega), if_neg (by omega)]
theorem bkw_sg {W H : Int} {n : Nat} {f : Nat → Int} {v : W4} (h : okW W H n f v = true) : sg H (bkw v) = sg H v := by
  obtain ⟨-, -, -, -, -, -, g1, g2⟩ := goW h
  show lowI (v.1 + v.2.2.1) (-v.2.2.1) * 2 * H + lowI (v.2.1 + v.2.2.2) (-v.2.2.2) = lowI v.1 v.2.2.1 * 2 * H + lowI v.2.1 v.2.2.2
  rw [low_back (sign_yes g1), low_back (sign_yes g2)]
theorem bkw_ok {W H : Int} {n : Nat} {f : Nat → Int} {v : W4} (h : okW W H n f v = true) : okW W H n f (bkw v) = true := by
  obtain ⟨hv, hg⟩ := wk_valid h
  obtain ⟨s1, s2, p1, p2⟩ := go_yes hg
  show wkB W H n f (v.1 + v.2.2.1) (v.2.1 + v.2.2.2) (-v.2.2.1) (-v.2.2.2) = true
  have t1 : signB (-v.2.2.1) = true := by rcases sign_yes s1 with e | e <;> rw [e] <;> rfl
  have t2 : signB (-v.2.2.2) = true := by rcases sign_yes s2 with e | e <;> rw [e] <;> rfl
  rw [wk_is hv, go_is t1 t2 p2]
  rw [show v.1 + v.2.2.1 + -v.2.2.1 = v.1 by omega, show v.2.1 + v.2.2.2 + -v.2.2.2 = v.2.1 by omega]
  exact p1
theorem sg_eq {W H : Int} {n : Nat} {f : Nat → Int} {u v : W4} (hu : okW W H n f u = true) (hv : okW W H n f v = true) (h : sg H u = sg H v) : u = v ∨ u = bkw v := by
  obtain ⟨hva, hg⟩ := wk_valid hu
  obtain ⟨-, hg'⟩ := wk_valid hv
  obtain ⟨hW, hH, -, -⟩ := validB_yes hva
  obtain ⟨b1, b2⟩ := side_mk hH
  obtain ⟨s1, s2, p1, p2⟩ := go_yes hg
  obtain ⟨t1, t2, q1, q2⟩ := go_yes hg'
  obtain ⟨-, -, y1, y2, e1⟩ := has_yes p1
  obtain ⟨-, -, y3, y4, -⟩ := has_yes p2
  obtain ⟨-, -, z1, z2, e2⟩ := has_yes q1
  obtain ⟨-, -, z3, z4, -⟩ := has_yes q2
  have d1 := sign_yes s1
  have d2 := sign_yes s2
  have d3 := sign_yes t1
  have d4 := sign_yes t2
  obtain ⟨x, y, dx, dy⟩ := u
  obtain ⟨x', y', dx', dy'⟩ := v
  simp only at *
  have h' : lowI x dx * 2 * H + lowI y dy = lowI x' dx' * 2 * H + lowI y' dy' := h
  have r1 : 0 ≤ lowI y dy ∧ lowI y dy < 2 * H := by unfold lowI; split <;> omega
  have r2 : 0 ≤ lowI y' dy' ∧ lowI y' dy' < 2 * H := by unfold lowI; split <;> omega
  have ey : lowI y dy = lowI y' dy' := by
    have m1 : (lowI x dx * 2 * H + lowI y dy) % (2 * H) = lowI y dy := by
      rw [Int.mul_assoc, Int.add_comm, Int.add_mul_emod_self_right]
      exact Int.emod_eq_of_lt r1.1 r1.2
    have m2 : (lowI x' dx' * 2 * H + lowI y' dy') % (2 * H) = lowI y' dy' := by
      rw [Int.mul_assoc, Int.add_comm, Int.add_mul_emod_self_right]
      exact Int.emod_eq_of_lt r2.1 r2.2
    rw [← m1, ← m2, h']
  have ex : lowI x dx = lowI x' dx' := by
    have m : lowI x dx * (2 * H) = lowI x' dx' * (2 * H) := by rw [← Int.mul_assoc, ← Int.mul_assoc]; omega
    exact Int.eq_of_mul_eq_mul_right (by omega) m
  clear h h' r1 r2
  simp only [bkw, Prod.mk.injEq]
  unfold lowI at ex ey
  rcases d1 with rfl | rfl <;> rcases d2 with rfl | rfl <;> rcases d3 with rfl | rfl <;> rcases d4 with rfl | rfl <;> simp at ex ey ⊢ <;> omega

/-- u stands on v's walk -/
def Orb (W H : Int) (f : Nat → Int) (v : W4) (N : Nat) (u : W4) : Prop := ∃ t, t < N ∧ u = stps W H f t v
/-- the segment s is on v's walk -/
def OnC (W H : Int) (f : Nat → Int) (v : W4) (N : Nat) (s : Nat) : Prop := ∃ t, t < N ∧ s = (sg H (stps W H f t v)).toNat
theorem orb_stp {W H : Int} {f : Nat → Int} {v u : W4} {N : Nat} (hN : IsPer W H f v N) : Orb W H f v N (stp W H f u) ↔ Orb W H f v N u := by
  obtain ⟨h1, -, h3, -⟩ := hN
  constructor
  · rintro ⟨t, ht, e⟩
    cases t with
    | zero =>
      refine ⟨N - 1, by omega, ?_⟩
      refine stp_inj (W := W) (H := H) (f := f) ?_
      show stp W H f u = stps W H f (N - 1 + 1) v
      rw [show N - 1 + 1 = N by omega, h3]
      exact e
    | succ t => exact ⟨t, by omega, stp_inj e⟩
  · rintro ⟨t, ht, e⟩
    by_cases h : t + 1 = N
    · refine ⟨0, by omega, ?_⟩
      rw [e]
      show stps W H f (t + 1) v = v
      rw [h]; exact h3
    · exact ⟨t + 1, by omega, by rw [e]; rfl⟩
theorem sg_nat {W H : Int} {n : Nat} {f : Nat → Int} {u v : W4} (hu : okW W H n f u = true) (hv : okW W H n f v = true) (h : (sg H u).toNat = (sg H v).toNat) : sg H u = sg H v := by
  have := (sg_rng hu).1
  have := (sg_rng hv).1
  omega
theorem on_orb {W H : Int} {n : Nat} {f : Nat → Int} {v u : W4} {N : Nat} (hv : okW W H n f v = true) (hu : okW W H n f u = true) : OnC W H f v N (sg H u).toNat ↔ (Orb W H f v N u ∨ Orb W H f v N (bkw u)) := by
  constructor
  · rintro ⟨t, ht, e⟩
    have hs := stps_ok hv t
    rcases sg_eq hu hs (sg_nat hu hs e) with h | h
    · exact .inl ⟨t, ht, h⟩
    · exact .inr ⟨t, ht, by rw [h, bkw_bkw]⟩
  · rintro (⟨t, ht, e⟩ | ⟨t, ht, e⟩)
    · exact ⟨t, ht, by rw [e]⟩
    · exact ⟨t, ht, by rw [← e, bkw_sg hu]⟩
theorem on_step {W H : Int} {n : Nat} {f : Nat → Int} {v u : W4} {N : Nat} (hv : okW W H n f v = true) (hN : IsPer W H f v N) (hu : okW W H n f u = true) : OnC W H f v N (sg H (stp W H f u)).toNat ↔ OnC W H f v N (sg H u).toNat := by
  rw [on_orb hv hu, on_orb hv (show okW W H n f (stp W H f u) = true from stps_ok hu 1)]
  show (Orb W H f v N (stp W H f u) ∨ Orb W H f v N (bkw (stp W H f u))) ↔ _
  rw [orb_stp hN, ← orb_stp (u := bkw (stp W H f u)) hN, stp_back]

theorem mkd_yes {W H : Int} {f : Nat → Int} {v : W4} {i : Int} {of : Nat → Int} : ∀ {j s : Nat}, OnC W H f v j s → mkd W H f v i of j s = i
  | 0, s, ⟨t, ht, _⟩ => absurd ht (by omega)
  | j + 1, s, ⟨t, ht, e⟩ => by
    rw [mkd_succ]
    split
    · rfl
    · next h =>
      refine mkd_yes ⟨t, ?_, e⟩
      rcases Nat.lt_or_ge t j with h' | h'
      · exact h'
      · exact absurd (by rw [e, show t = j by omega]) h
theorem mkd_no {W H : Int} {f : Nat → Int} {v : W4} {i : Int} {of : Nat → Int} : ∀ {j s : Nat}, ¬ OnC W H f v j s → mkd W H f v i of j s = of s
  | 0, s, _ => rfl
  | j + 1, s, h => by
    rw [mkd_succ, if_neg (fun e => h ⟨j, by omega, e⟩)]
    exact mkd_no (fun ⟨t, ht, e⟩ => h ⟨t, by omega, e⟩)
/-- a step stays on its curve -/
def Closed (W H : Int) (n : Nat) (f : Nat → Int) (g : Nat → Int) : Prop := ∀ u, okW W H n f u = true → g (sg H (stp W H f u)).toNat = g (sg H u).toNat
theorem mkd_closed {W H : Int} {n : Nat} {f : Nat → Int} {v : W4} {i : Int} {of : Nat → Int} {N : Nat} (hv : okW W H n f v = true) (hN : IsPer W H f v N) (hc : Closed W H n f of) : Closed W H n f (mkd W H f v i of N) := fun u hu => by
  have hs := on_step hv hN hu
  by_cases h : OnC W H f v N (sg H u).toNat
  · rw [mkd_yes h, mkd_yes (hs.2 h)]
  · rw [mkd_no h, mkd_no (fun h' => h (hs.1 h')), hc u hu]
theorem trs_closed {W H : Int} {n : Nat} {f : Nat → Int} (hv : validB W H n f = true) : ∀ (k : Nat), (k : Int) ≤ 4 * W * H → Closed W H n f (trs W H f k).of
  | 0, _ => fun u _ => rfl
  | k + 1, hk => by
    have ih := trs_closed hv k (by omega)
    rcases Int.lt_or_le ((trs W H f k).of k) 0 with h | h
    · rw [trs_no h]
      have hok := (wkr_ok hv (k := k) (by omega)).1
      exact mkd_closed hok (per_is hok) ih
    · rw [trs_yes h]; exact ih
theorem closed_stps {W H : Int} {n : Nat} {f g : Nat → Int} {v : W4} (hc : Closed W H n f g) (hv : okW W H n f v = true) : ∀ t, g (sg H (stps W H f t v)).toNat = g (sg H v).toNat
  | 0 => rfl
  | t + 1 => (hc _ (stps_ok hv t)).trans (closed_stps hc hv t)

theorem no_back {W H : Int} {n : Nat} {f : Nat → Int} {v : W4} (hv : okW W H n f v = true) : ∀ (d i : Nat), stps W H f i v = bkw (stps W H f (i + d) v) → False
  | 0, i, e => by
    obtain ⟨-, -, -, -, -, -, g1, -⟩ := goW (stps_ok hv i)
    have e1 : (stps W H f i v).2.2.1 = -(stps W H f i v).2.2.1 := congrArg (fun u : W4 => u.2.2.1) e
    have := sign_yes g1
    omega
  | 1, i, e => by
    obtain ⟨-, -, -, -, -, -, g1, g2⟩ := goW (stps_ok hv i)
    have e1 : (stps W H f i v).2.2.1 = -(stp W H f (stps W H f i v)).2.2.1 := congrArg (fun u : W4 => u.2.2.1) e
    have e2 : (stps W H f i v).2.2.2 = -(stp W H f (stps W H f i v)).2.2.2 := congrArg (fun u : W4 => u.2.2.2) e
    have d1 := sign_yes g1
    have d2 := sign_yes g2
    simp only [stp, stDX, stDY] at e1 e2
    split at e1 <;> split at e2 <;> omega
  | d + 2, i, e => by
    refine no_back hv d (i + 1) ?_
    show stp W H f (stps W H f i v) = _
    rw [e]
    have h := stp_back W H f (stps W H f (i + 1 + d) v)
    rw [← h]
    have q : i + (d + 2) = i + 1 + d + 1 := by omega
    rw [q]
    rfl
theorem segs_apart {W H : Int} {n : Nat} {f : Nat → Int} {v : W4} {N : Nat} (hv : okW W H n f v = true) (hN : IsPer W H f v N) {i j : Nat} (h1 : i < j) (h2 : j < N) : (sg H (stps W H f j v)).toNat ≠ (sg H (stps W H f i v)).toNat := fun e => by
  have hi := stps_ok hv i
  have hj := stps_ok hv j
  rcases sg_eq hi hj (sg_nat hi hj e.symm) with h | h
  · have e3 : stps W H f j v = stps W H f i (stps W H f (j - i) v) := by rw [← stps_add, show j - i + i = j by omega]
    rw [e3] at h
    exact hN.2.2.2 (j - i) (by omega) (by omega) (stps_inj i h).symm
  · exact no_back hv (j - i) i (by rw [show i + (j - i) = j by omega]; exact h)

/-- how often g is i below k -/
def cntE (g : Nat → Int) (i : Int) : Nat → Nat
  | 0 => 0
  | k + 1 => cntE g i k + (if g k = i then 1 else 0)
theorem cntE_succ (g : Nat → Int) (i : Int) (k : Nat) : cntE g i (k + 1) = cntE g i k + (if g k = i then 1 else 0) := rfl
theorem cntE_le (g : Nat → Int) (i : Int) : ∀ k, cntE g i k ≤ k
  | 0 => Nat.le_refl _
  | k + 1 => by rw [cntE_succ]; have := cntE_le g i k; split <;> omega
theorem cntE_zero {g : Nat → Int} {i : Int} : ∀ {k : Nat}, (∀ s, s < k → g s ≠ i) → cntE g i k = 0
  | 0, _ => rfl
  | k + 1, h => by rw [cntE_succ, if_neg (h k (by omega)), cntE_zero (fun s hs => h s (by omega))]
theorem cntE_upd {g g' : Nat → Int} {i : Int} {s0 : Nat} (hg : ∀ s, s ≠ s0 → g' s = g s) : ∀ (k : Nat), k ≤ s0 → cntE g' i k = cntE g i k
  | 0, _ => rfl
  | k + 1, h => by rw [cntE_succ, cntE_succ, cntE_upd hg k (by omega), hg k (by omega)]
theorem cntE_in {g g' : Nat → Int} {i : Int} {s0 : Nat} (hg : ∀ s, s ≠ s0 → g' s = g s) (h0 : g s0 ≠ i) (h1 : g' s0 = i) : ∀ (k : Nat), s0 < k → cntE g' i k = cntE g i k + 1
  | 0, h => absurd h (by omega)
  | k + 1, h => by
    rw [cntE_succ, cntE_succ]
    by_cases e : k = s0
    · subst e
      rw [if_pos h1, if_neg h0, cntE_upd hg k (Nat.le_refl _)]
    · rw [cntE_in hg h0 h1 k (by omega), hg k e]
      omega
theorem cntE_out {g g' : Nat → Int} {i : Int} {s0 : Nat} (hg : ∀ s, s ≠ s0 → g' s = g s) (h0 : g s0 ≠ i) (h1 : g' s0 ≠ i) : ∀ (k : Nat), cntE g' i k = cntE g i k
  | 0 => rfl
  | k + 1 => by
    rw [cntE_succ, cntE_succ, cntE_out hg h0 h1 k]
    by_cases e : k = s0
    · subst e
      rw [if_neg h1, if_neg h0]
    · rw [hg k e]
theorem mkd_cnt {W H : Int} {n : Nat} {f : Nat → Int} {v : W4} {i : Int} {of : Nat → Int} {N : Nat} (hv : okW W H n f v = true) (hN : IsPer W H f v N) (ho : ∀ s, of s ≠ i) : ∀ j, j ≤ N → cntE (mkd W H f v i of j) i (4 * W * H).toNat = j
  | 0, _ => cntE_zero (fun s _ => ho s)
  | j + 1, hj => by
    have hs := sg_rng (stps_ok hv j)
    rw [cntE_in (g := mkd W H f v i of j) (s0 := (sg H (stps W H f j v)).toNat) (fun s h => by rw [mkd_succ, if_neg h]) ?_ (by rw [mkd_succ, if_pos rfl]) _ (by omega), mkd_cnt hv hN ho j (by omega)]
    rw [mkd_no (fun ⟨t, ht, e⟩ => segs_apart hv hN ht (by omega) e)]
    exact ho _
theorem mkd_cnt' {W H : Int} {f : Nat → Int} {v : W4} {i i' : Int} {of : Nat → Int} (hne : i ≠ i') (ho : ∀ t, of (sg H (stps W H f t v)).toNat ≠ i') (M : Nat) : ∀ j, cntE (mkd W H f v i of j) i' M = cntE of i' M
  | 0 => rfl
  | j + 1 => by
    rw [cntE_out (g := mkd W H f v i of j) (s0 := (sg H (stps W H f j v)).toNat) (fun s h => by rw [mkd_succ, if_neg h]) ?_ (by rw [mkd_succ, if_pos rfl]; exact hne) M, mkd_cnt' hne ho M j]
    rcases mk_cases W H f v i of j (sg H (stps W H f j v)).toNat with e | e <;> rw [e]
    · exact ho j
    · exact hne
/-- a curve has as many segments as its walk is long -/
theorem trs_len {W H : Int} {n : Nat} {f : Nat → Int} (hv : validB W H n f = true) : ∀ (k : Nat), (k : Int) ≤ 4 * W * H → ∀ i, i < (trs W H f k).cnt → cntE (trs W H f k).of i (4 * W * H).toNat = per W H f (wkr H ((trs W H f k).st i))
  | 0, _, i, hi => absurd hi (by show ¬ i < 0; omega)
  | k + 1, hk, i, hi => by
    have ih := trs_len hv k (by omega)
    rcases Int.lt_or_le ((trs W H f k).of k) 0 with h | h
    · obtain ⟨hok, hsg⟩ := wkr_ok hv (k := k) (by omega)
      rw [trs_no h] at hi ⊢
      simp only at hi ⊢
      by_cases e : i = (trs W H f k).cnt
      · rw [if_pos e, e]
        exact mkd_cnt hok (per_is hok) (fun s => by have := (trs_of_ge W H f k s).2.1; omega) _ (Nat.le_refl _)
      · rw [if_neg e, mkd_cnt' (by omega) ?_, ih i (by omega)]
        intro t
        rw [closed_stps (trs_closed hv k (by omega)) hok t, hsg]
        simp only [Int.toNat_natCast]
        omega
    · rw [trs_yes h] at hi ⊢
      exact ih i hi
end Go.Proofs.YtbpdjmjkjiddjaaDoor.Base
namespace Go.Proofs.YtbpdjmjkjiddjaaDoor.Base
open Go Go.RowKit
set_option linter.unusedVariables false
set_option linter.unusedSimpArgs false

theorem mk_hit (W H : Int) (f : Nat → Int) (v : W4) (i : Int) (of : Nat → Int) : ∀ (j s : Nat), mkd W H f v i of j s = of s ∨ ∃ t, s = (sg H (stps W H f t v)).toNat
  | 0, s => .inl rfl
  | j + 1, s => by
    rw [mkd_succ]
    split
    · exact .inr ⟨j, by assumption⟩
    · exact mk_hit W H f v i of j s
theorem trs_first {W H : Int} {n : Nat} {f : Nat → Int} (hv : validB W H n f = true) : ∀ (k : Nat), (k : Int) ≤ 4 * W * H → ∀ i, i < (trs W H f k).cnt → (trs W H f k).of ((trs W H f k).st i) = i ∧ ∀ s, s < (trs W H f k).st i → (trs W H f k).of s ≠ i
  | 0, _, i, h => absurd h (by show ¬ i < 0; omega)
  | k + 1, hk, i, hi => by
    have hk' : (k : Int) < 4 * W * H := by omega
    obtain ⟨hok, hsg⟩ := wkr_ok hv hk'
    have ih := trs_first hv k (by omega)
    have hcl := closed_stps (trs_closed hv k (by omega)) hok
    rcases Int.lt_or_le ((trs W H f k).of k) 0 with h | h
    · have keep : ∀ s, 0 ≤ (trs W H f k).of s → mkd W H f (wkr H k) (trs W H f k).cnt (trs W H f k).of (per W H f (wkr H k)) s = (trs W H f k).of s := fun s hs => by
        rcases mk_hit W H f (wkr H k) (trs W H f k).cnt (trs W H f k).of (per W H f (wkr H k)) s with e | ⟨t, e⟩
        · exact e
        · exfalso
          have h1 := hcl t
          rw [← e, hsg] at h1
          simp only [Int.toNat_natCast] at h1
          omega
      rw [trs_no h] at hi ⊢
      simp only at hi ⊢
      by_cases he : i = (trs W H f k).cnt
      · rw [if_pos he, he]
        constructor
        · have e2 : k = (sg H (wkr H k)).toNat := by rw [hsg]; omega
          have h0 := mk_first (W := W) (H := H) (f := f) (v := wkr H k) (i := ((trs W H f k).cnt : Int)) (of := (trs W H f k).of) (by omega) (per W H f (wkr H k)) (per_pos W H f (wkr H k))
          rw [← e2] at h0
          rcases mk_cases W H f (wkr H k) (trs W H f k).cnt (trs W H f k).of (per W H f (wkr H k)) k with e | e
          · omega
          · exact e
        · intro s hs e
          have h0 := trs_done hv k s (by omega) hs
          rw [keep s h0] at e
          have := (trs_of_ge W H f k s).2.1
          omega
      · rw [if_neg he]
        obtain ⟨i1, i2⟩ := ih i (by omega)
        constructor
        · rw [keep _ (by omega)]
          exact i1
        · intro s hs e
          rcases mk_cases W H f (wkr H k) (trs W H f k).cnt (trs W H f k).of (per W H f (wkr H k)) s with e1 | e1
          · exact i2 s hs (e1.symm.trans e)
          · omega
    · rw [trs_yes h] at hi ⊢
      exact ih i hi
/-- the walker with which curve s begins -/
noncomputable def stA (W H : Int) (f : Nat → Int) (s : Int) : Value := if inB s 0 ((cnN W H f : Int) - 1) then wagg (cuW W H f s.toNat) else .agg #[.int .i64 0, .int .i64 0, .int .i64 0, .int .i64 0]
theorem stA_yes {W H : Int} {n : Nat} {f : Nat → Int} {s : Int} {k : Nat} (hv : validB W H n f = true) (hk : k < (4 * W * H).toNat) (h : (trs W H f (4 * W * H).toNat).of k = s) (hno : ∀ t, t < k → (trs W H f (4 * W * H).toNat).of t ≠ s) :
    stA W H f s = .agg #[.int .i64 (wtX H k), .int .i64 (wtY H k), .int .i64 1, .int .i64 (wtD H k)] ∧ inB s 0 ((cnN W H f : Int) - 1) = true := by
  have h0 := trs_done hv (4 * W * H).toNat k (by omega) hk
  have h1 := (trs_of_ge W H f (4 * W * H).toNat k).2.1
  have hi : inB s 0 ((cnN W H f : Int) - 1) = true := by unfold inB cnN; simp; omega
  obtain ⟨q1, q2⟩ := trs_first hv (4 * W * H).toNat (by omega) s.toNat (by omega)
  have e : (trs W H f (4 * W * H).toNat).st s.toNat = k := by
    rcases Nat.lt_trichotomy ((trs W H f (4 * W * H).toNat).st s.toNat) k with h2 | h2 | h2
    · exact absurd (q1.trans (by omega)) (hno _ h2)
    · exact h2
    · exact absurd (h.trans (by omega)) (q2 k h2)
  refine ⟨?_, hi⟩
  unfold stA
  rw [if_pos hi]
  show wagg (wkr H ((trs W H f (4 * W * H).toNat).st s.toNat)) = _
  rw [e]
  rfl
theorem stA_no {W H : Int} {n : Nat} {f : Nat → Int} {s : Int} (hv : validB W H n f = true) (hno : ∀ t, t < (4 * W * H).toNat → (trs W H f (4 * W * H).toNat).of t ≠ s) :
    stA W H f s = .agg #[.int .i64 0, .int .i64 0, .int .i64 0, .int .i64 0] ∧ inB s 0 ((cnN W H f : Int) - 1) = false := by
  have hi : inB s 0 ((cnN W H f : Int) - 1) = false := by
    cases hi : inB s 0 ((cnN W H f : Int) - 1)
    · rfl
    · obtain ⟨s0, s1⟩ := in_yes hi
      obtain ⟨hW, hH, -, -⟩ := validB_yes hv
      obtain ⟨m0, m1⟩ := segs_bd hW hH
      have s2 : s.toNat < (trs W H f (4 * W * H).toNat).cnt := by unfold cnN at s1; omega
      obtain ⟨q1, -⟩ := trs_first hv (4 * W * H).toNat (by omega) s.toNat s2
      exact absurd (q1.trans (by omega)) (hno _ (trs_st _ _ s2))
  refine ⟨?_, hi⟩
  unfold stA
  rw [if_neg (by rw [hi]; exact Bool.false_ne_true)]
set_option maxHeartbeats 2000000 in
theorem spec_start (w : World) (p : Nat) (W H : Int) (A : Option Addr) (n c : Nat) (f : Nat → Int) (s : Int) (hb : Box w p W H A n c) (hr : Row .i64 w A n c f) (hv : validB W H n f = true) :
    Calls Tryd.prog 92 #[.pointer (some ⟨p, 0, none⟩), .int .i64 s] w (Gives (.tuple #[stA W H f s, .bool (inB s 0 ((cnN W H f : Int) - 1))]) w) := by
  obtain ⟨hW, hH, -, -⟩ := validB_yes hv
  obtain ⟨m0, m1⟩ := segs_bd hW hH
  have HSY := Lib.hid (fun (k : Nat) h1 h2 h3 => stA_yes (s := s) (k := k) hv h1 h2 h3)
  have HSN := Lib.hid (fun h1 => stA_no (s := s) hv h1)
  have HL := Lib.hid (show Below w.heap.size w (w.alloc (.cells #[.int .i64 0, .int .i64 0, .int .i64 0, .int .i64 0] 131)) from (Below.refl _ _).alloc (Nat.le_refl _) _)
  have HZ := Lib.hid (At.new w #[.int .i64 0, .int .i64 0, .int .i64 0, .int .i64 0] 131)
  have HA := Lib.hid (spec_all (w.alloc (.cells #[.int .i64 0, .int .i64 0, .int .i64 0, .int .i64 0] 131)) p W H A n c f (hb.below HL.out hb.1) (hr.below HL.out (Nat.le_refl _)) hv)
  have HX := Lib.hid hb
  obtain ⟨M, hM⟩ : ∃ M : Nat, (4 * W * H).toNat = M := ⟨_, rfl⟩
  have hM1 : M ≤ 256 := by omega
  rw [hM] at HSY HSN HA
  obtain ⟨R, hR⟩ : ∃ R, stA W H f s = R := ⟨_, rfl⟩
  obtain ⟨T, hT⟩ : ∃ T, inB s 0 ((cnN W H f : Int) - 1) = T := ⟨_, rfl⟩
  rw [hR, hT] at HSY HSN ⊢
  clear hb hr hv hR hT hM
  go_enter Tryd.func92, Tryd.ntmps92
  go_wp2_with fail
  refine HA.out.mono ?_
  rintro e w2 ⟨A1, d1, L, rfl, h1⟩
  have HO := Lib.hid h1.of
  have hz2 := h1.below.size
  have HZ2 := Lib.hid (HZ.out.below h1.below HZ.out.lt)
  have HB2 := Lib.hid (HL.out.trans (h1.below.mono (by simp)))
  have HX2 := Lib.hid (HX.out.below HB2.out HX.out.1)
  have hOl := h1.of.lt
  have hwl : w.heap.size < w2.heap.size := HZ2.out.lt
  clear h1 HA HX HL HZ
  generalize hob : (w.alloc (.cells #[.int .i64 0, .int .i64 0, .int .i64 0, .int .i64 0] 131)).heap.size = ob at *
  obtain ⟨of, hof⟩ : ∃ of, (trs W H f M).of = of := ⟨_, rfl⟩
  rw [hof] at HO HSY HSN
  clear hof
  go_wp2
  go_loopw [8] (fun u8 wr => ∃ k : Nat, u8 = .int .i64 (k : Int) ∧ k ≤ M ∧ Hid (∀ t, t < k → of t ≠ s) ∧ wr = w2) (fun u8 _ => M - (intOf u8).toNat)
  case atStart => exact ⟨0, rfl, Nat.zero_le _, Lib.hid (fun t h => absurd h (by omega)), rfl⟩
  case round =>
    obtain ⟨k, rfl, hk, HK, rfl⟩ := hrel
    by_cases hlt : k < M
    · have hc := HO.out.cell hlt
      by_cases he : of k = s
      · obtain ⟨r1, r2⟩ := HSY.out k hlt he HK.out
        have hb : (of k == s) = true := by simp [he]
        have HR1 := Lib.hid r1
        have HR2 := Lib.hid r2
        clear r1 r2
        go_wp2_with fail
        refine (specWalker wr p W H A n c k HX2.out hH (by omega) (by omega)).mono ?_
        rintro e w3 ⟨rfl, b3⟩
        have HZ3 := Lib.hid (HZ2.out.below b3 HZ2.out.lt)
        have HB3 := Lib.hid (HB2.out.trans (b3.mono HB2.out.size))
        clear b3
        have z0 := HZ3.out.cellv (i := 0) rfl
        have z1 := HZ3.out.cellv (i := 1) rfl
        have z2 := HZ3.out.cellv (i := 2) rfl
        have z3 := HZ3.out.cellv (i := 3) rfl
        have f0 := HZ3.out.frozen 0
        have f1 := HZ3.out.frozen 1
        have f2 := HZ3.out.frozen 2
        have f3 := HZ3.out.frozen 3
        have lz := HZ3.out.lt
        have e1 := HR1.out
        have e2 := HR2.out
        clear HR1 HR2
        subst e1 e2
        go_wp2
        refine bodyPost_ret ?_ rfl ⟨rfl, (((HB3.out.setCell (p := ⟨w.heap.size, 0, none⟩) (Nat.le_refl _) _).setCell (p := ⟨w.heap.size, 1, none⟩) (Nat.le_refl _) _).setCell (p := ⟨w.heap.size, 2, none⟩) (Nat.le_refl _) _).setCell (p := ⟨w.heap.size, 3, none⟩) (Nat.le_refl _) _⟩
        simp [results, Tryd.results92, go_sem, z0, z1, z2, z3]
      · have hb : (of k == s) = false := by simp [he]
        go_wp2
        go_roundw
        case rel => exact ⟨k + 1, by go_num, hlt, Lib.hid (fun t h1 => by by_cases e : t = k; (subst e; exact he); exact HK.out t (by omega)), by trivial⟩
        case measure => simp [intOf]; omega
    · have ek : k = M := by omega
      subst ek
      obtain ⟨r1, r2⟩ := HSN.out HK.out
      subst r1 r2
      have z0 := HZ2.out.cellv (i := 0) rfl
      have z1 := HZ2.out.cellv (i := 1) rfl
      have z2 := HZ2.out.cellv (i := 2) rfl
      have z3 := HZ2.out.cellv (i := 3) rfl
      have f0 := HZ2.out.frozen 0
      have f1 := HZ2.out.frozen 1
      have f2 := HZ2.out.frozen 2
      have f3 := HZ2.out.frozen 3
      have lz := HZ2.out.lt
      go_wp2
      refine bodyPost_ret ?_ rfl ⟨rfl, (((HB2.out.setCell (p := ⟨w.heap.size, 0, none⟩) (Nat.le_refl _) _).setCell (p := ⟨w.heap.size, 1, none⟩) (Nat.le_refl _) _).setCell (p := ⟨w.heap.size, 2, none⟩) (Nat.le_refl _) _).setCell (p := ⟨w.heap.size, 3, none⟩) (Nat.le_refl _) _⟩
      simp [results, Tryd.results92, go_sem, z0, z1, z2, z3]
end Go.Proofs.YtbpdjmjkjiddjaaDoor.Base
namespace Go.Proofs.YtbpdjmjkjiddjaaDoor.Base
open Go Go.RowKit
set_option linter.unusedVariables false
set_option linter.unusedSimpArgs false

theorem OwnP.down {w : World} {base base' : Nat} {A : Option Addr} {n c : Nat} {g : Nat → Int} (h : OwnP w base A n c g) (hb : base' ≤ base) : OwnP w base' A n c g :=
  ⟨h.1, h.2.1, h.2.2.1, fun hn => by obtain ⟨b, o, e, h0, h1, h2⟩ := h.2.2.2 hn; exact ⟨b, o, e, Nat.le_trans hb h0, h1, h2⟩⟩
set_option maxHeartbeats 2000000 in
theorem spec_l13Of (w : World) (p : Nat) (W H : Int) (A : Option Addr) (n c : Nat) (f : Nat → Int) (s : Int) (hb : Box w p W H A n c) (hr : Row .i64 w A n c f) :
    Calls Tryd.prog 55 #[.pointer (some ⟨p, 0, none⟩), .int .i64 s] w (PsOut (poL W H n f s) (cuC W H n f s) w.heap.size w) := by
  have HX := Lib.hid hb
  have HR := Lib.hid hr
  clear hb hr
  cases hv : validB W H n f
  · rw [poL_no (by rw [cu_bad hv]; omega), cu_bad hv]
    have HV := Lib.hid hv
    clear hv
    go_enter Tryd.func55, Tryd.ntmps55
    go_wp2_with fail
    refine (specOk_is HV.out HX.out HR.out).mono ?_
    rintro e w1 ⟨m, rfl, rfl⟩
    go_wp2
    go_ret2
    exact ⟨none, 0, rfl, ownP_nil _ _, below_drewN (Below.refl _ _) m⟩
  · have HS := Lib.hid (fun (w9 : World) (h1 : Below w.heap.size w w9) => spec_start w9 p W H A n c f s (HX.out.below h1 HX.out.1) (HR.out.below h1 (Nat.le_refl _)) hv)
    cases hk : inB s 0 ((cnN W H f : Int) - 1)
    · rw [poL_no (by rw [cu_out hv hk]; omega), cu_out hv hk]
      have e1 : stA W H f s = .agg #[.int .i64 0, .int .i64 0, .int .i64 0, .int .i64 0] := if_neg (by rw [hk]; exact Bool.false_ne_true)
      rw [hk, e1] at HS
      have HV := Lib.hid hv
      clear hv hk e1
      go_enter Tryd.func55, Tryd.ntmps55
      go_wp2_with fail
      refine (specOk_is HV.out HX.out HR.out).mono ?_
      rintro e w1 ⟨m, rfl, rfl⟩
      go_wp2_with fail
      refine (HS.out _ (below_drewN (Below.refl _ _) m)).mono ?_
      rintro e w2 ⟨rfl, b2⟩
      have HB := Lib.hid ((below_drewN (Below.refl w.heap.size w) m).trans (b2.mono (by first | exact Nat.le_refl _ | (simp; done) | (simp; omega) | omega)))
      clear b2
      go_wp2
      go_ret2
      exact ⟨none, 0, rfl, ownP_nil _ _, HB.out.alloc HB.out.size _⟩
    · rw [poL_yes (cu_in hv hk), cu_in hv hk]
      obtain ⟨s0, s1⟩ := in_yes hk
      have hs : decide (s < 0) = false := by simp; omega
      have hok := cuW_ok hv (show s.toNat < cnN W H f by omega)
      have e1 : stA W H f s = wagg (cuW W H f s.toNat) := if_pos hk
      rw [hk, e1] at HS
      have HV := Lib.hid hv
      clear hv hk e1
      obtain ⟨⟨x, y, dx, dy⟩, hve⟩ : ∃ v, cuW W H f s.toNat = v := ⟨_, rfl⟩
      rw [hve] at HS hok ⊢
      clear hve
      have HWF := Lib.hid (pcL_wf hok (per W H f (x, y, dx, dy)))
      have HP := Lib.hid (fun (w9 : World) (h1 : Below w.heap.size w w9) => spec_passes w9 p W H A n c f x y dx dy (HX.out.below h1 HX.out.1) (HR.out.below h1 (Nat.le_refl _)) hok _ (per_is hok))
      obtain ⟨L, hL⟩ : ∃ L, pcL W H f (x, y, dx, dy) (per W H f (x, y, dx, dy)) = L := ⟨_, rfl⟩
      rw [hL] at HWF HP ⊢
      have HS : Hid (∀ (w9 : World), Below w.heap.size w w9 → Calls Tryd.prog 92 #[.pointer (some ⟨p, 0, none⟩), .int .i64 s] w9 (Gives (.tuple #[.agg #[.int .i64 x, .int .i64 y, .int .i64 dx, .int .i64 dy], .bool true]) w9)) := Lib.hid HS.out
      clear hL hok
      go_enter Tryd.func55, Tryd.ntmps55
      go_wp2_with fail
      refine (specOk_is HV.out HX.out HR.out).mono ?_
      rintro e w1 ⟨m, rfl, rfl⟩
      go_wp2_with fail
      refine (HS.out _ (below_drewN (Below.refl _ _) m)).mono ?_
      rintro e w2 ⟨rfl, b2⟩
      have HB := Lib.hid ((below_drewN (Below.refl w.heap.size w) m).trans (b2.mono (by first | exact Nat.le_refl _ | (simp; done) | (simp; omega) | omega)))
      clear b2
      go_wp2_with fail
      have HB3 := Lib.hid (HB.out.alloc HB.out.size (.cells #[.int .i64 x, .int .i64 y, .int .i64 dx, .int .i64 dy] 131))
      refine (HP.out _ HB3.out).mono ?_
      rintro e w4 ⟨u, rfl, h4, b4⟩
      obtain ⟨A4, c4, rfl⟩ := owns_slice h4
      have HO4 := Lib.hid (ownP_list h4 HWF.out (base' := w.heap.size) HB3.out.size)
      have HB4 := Lib.hid (HB3.out.trans (b4.mono HB3.out.size))
      clear h4 b4
      go_wp2
      go_ret2
      exact ⟨A4, c4, rfl, HO4.out, HB4.out⟩
theorem spec_passesOf (w : World) (W H : Int) (A : Option Addr) (n c : Nat) (f : Nat → Int) (s : Int) (hr : Row .i64 w A n c f) :
    Calls Tryd.prog 15 #[.agg #[.int .i64 W, .int .i64 H, .slice A n c], .int .i64 s] w (PsOut (poL W H n f s) (cuC W H n f s) w.heap.size w) := by
  have HL := Lib.hid (show Below w.heap.size w (w.alloc (.cells #[.int .i64 W, .int .i64 H, .slice A n c] 35)) from (Below.refl _ _).alloc (Nat.le_refl _) _)
  have HC := Lib.hid (spec_l13Of (w.alloc (.cells #[.int .i64 W, .int .i64 H, .slice A n c] 35)) w.heap.size W H A n c f s (Box.new w _ W H A n c) (hr.below HL.out (Nat.le_refl _)))
  clear hr
  go_enter Tryd.func15, Tryd.ntmps15
  go_wp2_with fail
  refine HC.out.mono ?_
  rintro e w1 ⟨A4, c4, rfl, h4, b4⟩
  have HO := Lib.hid h4
  have HB := Lib.hid (HL.out.trans (b4.mono HL.out.size))
  clear h4 b4
  go_wp2
  go_ret2
  exact ⟨A4, c4, rfl, HO.out.down HL.out.size, HB.out⟩
end Go.Proofs.YtbpdjmjkjiddjaaDoor.Base
namespace Go.Proofs.YtbpdjmjkjiddjaaDoor.Base
open Go Go.RowKit
set_option linter.unusedVariables false
set_option linter.unusedSimpArgs false

/-- how many of the first passes are over -/
def ovC (g : Nat → Int) : Nat → Nat
  | 0 => 0
  | k + 1 => if g (k * 2 + 1) != 0 then ovC g k + 1 else ovC g k
theorem ovC_le (g : Nat → Int) : ∀ k, ovC g k ≤ k
  | 0 => Nat.le_refl _
  | k + 1 => by
    have := ovC_le g k
    unfold ovC
    split <;> omega
noncomputable def coV (W H : Int) (n : Nat) (f : Nat → Int) (s : Int) : Int := ovC (psF (poL W H n f s)) (poL W H n f s).length
theorem coV_no {W H : Int} {n : Nat} {f : Nat → Int} {s : Int} (h : cuC W H n f s ≠ 0) : coV W H n f s = 0 := by
  unfold coV
  rw [poL_no h]
  rfl
set_option maxHeartbeats 2000000 in
theorem spec_countOver (w : World) (W H : Int) (A : Option Addr) (n c : Nat) (f : Nat → Int) (s : Int) (hr : Row .i64 w A n c f) :
    Calls Tryd.prog 22 #[.agg #[.int .i64 W, .int .i64 H, .slice A n c], .int .i64 s] w (Gives (.tuple #[.int .i64 (coV W H n f s), .int .i64 (cuC W H n f s)]) w) := by
  have HL := Lib.hid (show Below w.heap.size w (w.alloc (.cells #[.int .i64 W, .int .i64 H, .slice A n c] 35)) from (Below.refl _ _).alloc (Nat.le_refl _) _)
  have HC := Lib.hid (spec_l13Of (w.alloc (.cells #[.int .i64 W, .int .i64 H, .slice A n c] 35)) w.heap.size W H A n c f s (Box.new w _ W H A n c) (hr.below HL.out (Nat.le_refl _)))
  have hno := @coV_no W H n f s
  have hcv : coV W H n f s = ovC (psF (poL W H n f s)) (poL W H n f s).length := rfl
  rcases Classical.em (cuC W H n f s = 0) with e | e
  · rw [e] at HC ⊢
    rw [hcv]
    clear hr hno hcv e
    generalize poL W H n f s = L at *
    go_enter Tryd.func22, Tryd.ntmps22
    go_wp2_with fail
    refine HC.out.mono ?_
    rintro e w1 ⟨A4, c4, rfl, h4, b4⟩
    have HO := Lib.hid h4.row
    have HB := Lib.hid (HL.out.trans (b4.mono HL.out.size))
    have hN := h4.1
    have hM := h4.2.1
    clear h4 b4
    obtain ⟨N, hNe⟩ : ∃ N, L.length = N := ⟨_, rfl⟩
    rw [hNe] at HO hN ⊢
    have HNE := Lib.hid hNe
    clear hNe
    generalize psF L = g at *
    unfold maxLen at hM
    go_wp2
    go_loopw [8, 9] (fun u8 u9 wr => ∃ k : Nat, k ≤ N ∧ u8 = .int .i64 (ovC g k : Int) ∧ u9 = .int .i64 (k : Int) ∧ Hid (Below w1.heap.size w1 wr)) (fun _ u9 _ => N - (intOf u9).toNat)
    case atStart => exact ⟨0, Nat.zero_le _, rfl, rfl, Lib.hid (Below.refl _ _)⟩
    case round =>
      obtain ⟨k, hk, rfl, rfl, HW⟩ := hrel
      by_cases hlt : k < N
      · have hov := ovC_le g k
        obtain ⟨bb, o, rfl, hbl, t0, t1⟩ := (HO.out.below HW.out (Nat.le_refl _)).two hlt
        obtain ⟨v, hv⟩ : ∃ v, (g (k * 2 + 1) != 0) = v := ⟨_, rfl⟩
        have HS := Lib.hid (show ovC g (k + 1) = if (g (k * 2 + 1) != 0) = true then ovC g k + 1 else ovC g k from rfl)
        rw [hv] at t1 HS
        clear hv t0
        cases v
        · go_wp2
          go_roundw
          case rel => exact ⟨k + 1, hlt, by rw [HS.out]; go_num, by go_num, HW⟩
          case measure => simp [intOf]; omega
        · go_wp2
          go_roundw
          case rel => exact ⟨k + 1, hlt, by rw [HS.out]; go_num, by go_num, HW⟩
          case measure => simp [intOf]; omega
      · have ek : k = N := by omega
        subst ek
        go_wp2
        go_ret2
        exact ⟨by rw [HNE.out]; rfl, HB.out.trans (HW.out.mono HB.out.size)⟩
  · rw [hno e]
    have hne : (cuC W H n f s != 0) = true := by simp [e]
    rw [poL_no e] at HC
    generalize cuC W H n f s = code at *
    clear hr hno hcv
    go_enter Tryd.func22, Tryd.ntmps22
    go_wp2_with fail
    refine HC.out.mono ?_
    rintro e w1 ⟨A4, c4, rfl, h4, b4⟩
    have HB := Lib.hid (HL.out.trans (b4.mono HL.out.size))
    clear h4 b4
    go_wp2
    go_ret2
    exact ⟨rfl, HB.out⟩
set_option maxHeartbeats 2000000 in
theorem impl_countOver (w : World) (W H : Int) (A : Option Addr) (n c : Nat) (f : Nat → Int) (s : Int) (hr : Row .i64 w A n c f) (hT : Cel w 0 [.int .i64 1, .int .i64 1, .int .i64 (-1), .int .i64 1, .int .i64 1, .int .i64 (-1)]) :
    Calls Tryd.prog 23 #[.agg #[.int .i64 W, .int .i64 H, .slice A n c], .int .i64 s] w (Gives (.tuple #[.int .i64 (coV W H n f s), .int .i64 (cuC W H n f s)]) w) := by
  have HL := Lib.hid (show Below w.heap.size w (w.alloc (.cells #[.int .i64 W, .int .i64 H, .slice A n c] 35)) from (Below.refl _ _).alloc (Nat.le_refl _) _)
  have HC := Lib.hid (impl_passesOf (w.alloc (.cells #[.int .i64 W, .int .i64 H, .slice A n c] 35)) W H A n c f s (hr.below HL.out (Nat.le_refl _)) (hT.below HL.out hT.1))
  have hcv : coV W H n f s = ovC (psF (poL W H n f s)) (poL W H n f s).length := rfl
  rw [hcv]
  clear hr hT hcv
  generalize poL W H n f s = L at *
  generalize cuC W H n f s = code at *
  go_enter Tryd.func23, Tryd.ntmps23
  go_wp2_with fail
  refine HC.out.mono ?_
  rintro e w1 ⟨A4, c4, rfl, h4, b4⟩
  have HO := Lib.hid h4.row
  have HB := Lib.hid (HL.out.trans (b4.mono HL.out.size))
  have hN := h4.1
  have hM := h4.2.1
  clear h4 b4
  obtain ⟨N, hNe⟩ : ∃ N, L.length = N := ⟨_, rfl⟩
  rw [hNe] at HO hN ⊢
  have HNE := Lib.hid hNe
  clear hNe
  generalize psF L = g at *
  unfold maxLen at hM
  go_wp2
  go_loopw [8, 19] (fun u8 u19 wr => ∃ k : Nat, k ≤ N ∧ u8 = .int .i64 (ovC g k : Int) ∧ u19 = .int .i64 (k : Int) ∧ Hid (Below w1.heap.size w1 wr)) (fun _ u19 _ => N - (intOf u19).toNat)
  case atStart => exact ⟨0, Nat.zero_le _, rfl, rfl, Lib.hid (Below.refl _ _)⟩
  case round =>
    obtain ⟨k, hk, rfl, rfl, HW⟩ := hrel
    by_cases hlt : k < N
    · have hov := ovC_le g k
      obtain ⟨bb, o, rfl, hbl, t0, t1⟩ := (HO.out.below HW.out (Nat.le_refl _)).two hlt
      obtain ⟨v, hv⟩ : ∃ v, (g (k * 2 + 1) != 0) = v := ⟨_, rfl⟩
      obtain ⟨z, hz⟩ : ∃ z, g (k * 2) = z := ⟨_, rfl⟩
      have HS := Lib.hid (show ovC g (k + 1) = if (g (k * 2 + 1) != 0) = true then ovC g k + 1 else ovC g k from rfl)
      rw [hv] at t1 HS
      rw [hz] at t0
      have HW2 := Lib.hid (HW.out.alloc HW.out.size (.cells #[.int .i64 z, .bool v] 67))
      clear hv hz
      cases v
      · go_wp2
        go_roundw
        case rel => exact ⟨k + 1, hlt, by rw [HS.out]; go_num, by go_num, HW2⟩
        case measure => simp [intOf]; omega
      · go_wp2
        go_roundw
        case rel => exact ⟨k + 1, hlt, by rw [HS.out]; go_num, by go_num, HW2⟩
        case measure => simp [intOf]; omega
    · have ek : k = N := by omega
      subst ek
      go_wp2
      go_ret2
      exact ⟨by rw [HNE.out]; rfl, HB.out.trans (HW.out.mono HB.out.size)⟩
end Go.Proofs.YtbpdjmjkjiddjaaDoor.Base
