/-
  Columns: partners are set; the pairing at a border.
-/
import Derived.Test.YtpkajonnopmciaaPrc
import Derived.Test.YtpkajonnopmciaaWls
import Derived.Test.YtpkajonnopmciaaJn
import Derived.Test.YtpkajonnopmciaaSetB
namespace Go.Proofs.Ytpkajonnopmciaa.Base
open Go Go.RowKit
set_option linter.unusedVariables false
set_option linter.unusedSimpArgs false

/-- a column that the call has made -/
def ColMade (n : Nat) (f : Nat → Int) (z : Int) (w : World) (e : Ending) (w' : World) : Prop :=
  ∃ A c, e = .returned (.agg #[.slice A n c, .int .i64 z]) ∧ OwnRow w' w.heap.size A n c f ∧ Below w.heap.size w w'
def ColOut (n : Nat) (f : Nat → Int) (z : Int) (code : Int) (w : World) (e : Ending) (w' : World) : Prop :=
  ∃ A c, e = .returned (.tuple #[.agg #[.slice A n c, .int .i64 z], .int .i64 code]) ∧ OwnRow w' w.heap.size A n c f ∧ Below w.heap.size w w'
theorem OwnRow.congr {w : World} {base : Nat} {A : Option Addr} {n c : Nat} {f g : Nat → Int} (h : OwnRow w base A n c f) (e : ∀ i, i < n → f i = g i) : OwnRow w base A n c g :=
  ⟨h.1, h.2.1, fun i hi => by rw [← e i hi]; exact h.2.2.1 i hi, fun hn => by
    obtain ⟨b, o, ea, h1, h2, hc⟩ := h.2.2.2 hn
    exact ⟨b, o, ea, h1, h2, fun i hi => by rw [← e i hi]; exact hc i hi⟩⟩
/-- partners x and y -/
def prF (f : Nat → Int) (x y : Nat) : Nat → Int := putF (putF f x y) y x
/-- what setting partners leaves -/
def Paired (base p : Nat) (A : Option Addr) (n c : Nat) (f : Nat → Int) (x y : Nat) (w : World) (e : Ending) (w' : World) : Prop :=
  (∃ v, e = .returned v) ∧ OwnRow w' base A n c (prF f x y) ∧ ∃ b, blk A = some b ∧ b ≠ p ∧ base ≤ b ∧ w.grownBy w' (some b)
set_option maxHeartbeats 2000000 in
theorem impl_pair (w : World) (base p : Nat) (A : Option Addr) (n c : Nat) (f : Nat → Int) (z : Int) (x y : Nat) (hb : Cel w p [.slice A n c, .int .i64 z]) (hp : blk A = some p → False) (ho : OwnRow w base A n c f) (hx : x < n) (hy : y < n) (hxy : x ≠ y) :
    Calls Try.prog 85 #[.pointer (some ⟨p, 0, none⟩), .int .i64 x, .int .i64 y] w (Paired base p A n c f x y w) := by
  have hcm := ho.2.1
  have hnc := ho.1
  unfold maxLen at hcm
  obtain ⟨b, o, rfl, h1, h2, hc⟩ := ho.2.2.2 (by omega)
  have pz := hb.1
  have k0 : w.cell? ⟨p, 0, none⟩ = some (.slice (some ⟨b, o, none⟩) n c) := hb.2 0 _ rfl
  have fx := (hc x hx).2
  have fy := (hc y hy).2
  have cx := (hc x hx).1
  have cy := (hc y hy).1
  have S1 := ho.put hx (y : Int) (WalkArith.wf_i64 (by omega))
  have S2 := S1.put hy (x : Int) (WalkArith.wf_i64 (by omega))
  have HS := Lib.hid S2
  have hne : ¬ b = p := fun e => hp (by rw [← e]; rfl)
  clear hb ho hc S1 S2
  go_enter Try.func85, Try.ntmps85
  go_wp2
  have t0 : (w.drew.setCell ⟨b, o + x, none⟩ (.int .i64 (y : Int))).cell? ⟨p, 0, none⟩ = some (.slice (some ⟨b, o, none⟩) n c) := by
    rw [World.cell?_setCell_other _ _ _ _ (fun e => by injection e; omega)]
    exact k0
  have cy2 : (w.drew.setCell ⟨b, o + x, none⟩ (.int .i64 (y : Int))).cell? ⟨b, o + y, none⟩ = some (.int .i64 (f y)) := by
    rw [World.cell?_setCell_other _ _ _ _ (fun e => by injection e; omega)]
    exact cy
  have fy2 : (w.drew.setCell ⟨b, o + x, none⟩ (.int .i64 (y : Int))).frozen? ⟨b, o + y, none⟩ = false := by rw [World.frozen?_setCell]; exact fy
  go_region_held3 (fun w' => w'.cell? ⟨p, 0, none⟩ = some (.slice (some ⟨b, o, none⟩) n c))
    (first | exact k0 | exact t0 | go_keep | assumption)
    (fail)
  go_end0
  exact ⟨⟨_, rfl⟩, HS.out, b, rfl, hne, h1, ⟨rfl, rfl, rfl, by simp [World.setCell, World.drew], fun k hk hkb => by
    show ((w.setCell _ _).setCell _ _).heap[k]? = _
    rw [Below.heap_setCell _ _ _ k (by rintro rfl; exact hkb rfl), Below.heap_setCell _ _ _ k (by rintro rfl; exact hkb rfl)]⟩⟩
/-- the pairing at a border -/
def bdF (i : Nat) : Int := if i % 2 = 0 then (i : Int) + 1 else (i : Int) - 1
def bdK (j : Nat) (i : Nat) : Int := if i < 2 * j then bdF i else 0
theorem bd_step (j i : Nat) : prF (bdK j) (2 * j) (2 * j + 1) i = bdK (j + 1) i := by
  unfold prF putF bdK bdF
  by_cases e1 : i = 2 * j + 1
  · subst e1
    rw [if_pos rfl, if_pos (by omega), if_neg (by omega)]
    omega
  · rw [if_neg e1]
    by_cases e2 : i = 2 * j
    · subst e2
      rw [if_pos rfl, if_pos (by omega), if_pos (by omega)]
      omega
    · rw [if_neg e2]
      by_cases h : i < 2 * j
      · have h' : i < 2 * (j + 1) := by omega
        rw [if_pos h, if_pos h']
      · rw [if_neg h, if_neg (by omega)]
set_option maxHeartbeats 4000000 in
theorem impl_atBorder (w : World) (W : Int) (h : Nat) (h1 : 1 ≤ h) (h8 : h ≤ 8) :
    Calls Try.prog 58 #[.agg #[.int .i64 W, .int .i64 (h : Int)]] w (ColMade (2 * h) bdF 0 w) := by
  have hmk := run_make_row' (P := Try.prog) 22 2 (.int .i64 0) 8 Try.underlying22 infoI64 rfl .i64 .i64 (2 * h) (by omega) (by omega)
  rw [show ((2 * h : Nat) : Int) = 2 * (h : Int) by simp] at hmk
  have A1 := (Below.refl w.heap.size w).alloc (Nat.le_refl _) (.cells #[.int .i64 W, .int .i64 (h : Int)] 73)
  have A2 := A1.alloc A1.size (.cells #[.slice none 0 0, .int .i64 0] 30)
  have A3 := A2.alloc A2.size (.cells (madeCells #[.int .i64 0] (2 * h)) 2)
  have A4 := A3.alloc A3.size (.cells #[.slice (some ⟨w.heap.size + 1 + 1, 0, none⟩) (2 * h) (2 * h), .int .i64 0] 30)
  have HB0 := Lib.hid A4
  have hs := ((At.new w #[.int .i64 W, .int .i64 (h : Int)] 73).below ((((Below.refl _ _).alloc (Nat.le_refl _) (.cells #[.slice none 0 0, .int .i64 0] 30)).alloc (by first | exact Nat.le_refl _ | (simp; done) | (simp; omega) | omega) (.cells (madeCells #[.int .i64 0] (2 * h)) 2)).alloc (by first | exact Nat.le_refl _ | (simp; done) | (simp; omega) | omega) (.cells #[.slice (some ⟨w.heap.size + 1 + 1, 0, none⟩) (2 * h) (2 * h), .int .i64 0] 30)) (by first | exact Nat.le_refl _ | (simp; done) | (simp; omega) | omega))
  have hz := ((At.new (w.alloc (.cells #[.int .i64 W, .int .i64 (h : Int)] 73)) #[.slice none 0 0, .int .i64 0] 30).below (((Below.refl _ _).alloc (Nat.le_refl _) (.cells (madeCells #[.int .i64 0] (2 * h)) 2)).alloc (by simp) (.cells #[.slice (some ⟨w.heap.size + 1 + 1, 0, none⟩) (2 * h) (2 * h), .int .i64 0] 30)) (by simp))
  have hr := (World.rowIs_made ((w.alloc (.cells #[.int .i64 W, .int .i64 (h : Int)] 73)).alloc (.cells #[.slice none 0 0, .int .i64 0] 30)) (.int .i64 0) (2 * h) 2).of_block ((((Below.refl _ _).alloc (Nat.le_refl _) (.cells #[.slice (some ⟨w.heap.size + 1 + 1, 0, none⟩) (2 * h) (2 * h), .int .i64 0] 30))).block _ (by simp))
  have hc := At.new (((w.alloc (.cells #[.int .i64 W, .int .i64 (h : Int)] 73)).alloc (.cells #[.slice none 0 0, .int .i64 0] 30)).alloc (.cells (madeCells #[.int .i64 0] (2 * h)) 2)) #[.slice (some ⟨w.heap.size + 1 + 1, 0, none⟩) (2 * h) (2 * h), .int .i64 0] 30
  simp only [World.size_alloc] at hz hr hc
  have HS0 := Lib.hid (Cel.of_at (cs := [_, _]) hs)
  have HZ0 := Lib.hid hz
  have HC0 := Lib.hid (Cel.of_at (cs := [_, _]) hc)
  have HR0 := Lib.hid (ownRow_of (base := w.heap.size + 1 + 1) (f := bdK 0) (hr.congr (g := fun i => .int .i64 (bdK 0 i)) (fun i hi => by simp [bdK])) (by unfold maxLen; omega) (fun i hi => WalkArith.wf_i64 (by simp [bdK])) (Nat.le_refl _))
  clear A1 A2 A3 A4 hs hz hr hc
  go_enter Try.func58, Try.ntmps58
  go_wp2
  clear hmk
  generalize (((w.alloc (.cells #[.int .i64 W, .int .i64 (h : Int)] 73)).alloc (.cells #[.slice none 0 0, .int .i64 0] 30)).alloc (.cells (madeCells #[.int .i64 0] (2 * h)) 2)).alloc (.cells #[.slice (some ⟨w.heap.size + 1 + 1, 0, none⟩) (2 * h) (2 * h), .int .i64 0] 30) = w4 at *
  go_loopw [4] (fun kv wr => ∃ j : Nat, j ≤ h ∧ kv = .int .i64 (2 * (j : Int)) ∧ Hid (Cel wr w.heap.size [.int .i64 W, .int .i64 (h : Int)]) ∧ Hid (At wr (w.heap.size + 1) #[.slice none 0 0, .int .i64 0] 30) ∧ Hid (Cel wr (w.heap.size + 1 + 1 + 1) [.slice (some ⟨w.heap.size + 1 + 1, 0, none⟩) (2 * h) (2 * h), .int .i64 0]) ∧ Hid (OwnRow wr (w.heap.size + 1 + 1) (some ⟨w.heap.size + 1 + 1, 0, none⟩) (2 * h) (2 * h) (bdK j)) ∧ Hid (Below w.heap.size w wr)) (fun kv _ => 300 - (intOf kv).toNat)
  case atStart => exact ⟨0, Nat.zero_le _, rfl, HS0, HZ0, HC0, HR0, HB0⟩
  case round =>
    clear HS0 HZ0 HC0 HR0 HB0
    obtain ⟨j, hj, rfl, HS, HZ, HC, HR, HB⟩ := hrel
    have sz := HS.out.1
    have s1 := HS.out.2 1 _ rfl
    by_cases hlt : j < h
    · go_wp2_with fail
      refine (impl_pair wr (w.heap.size + 1 + 1) (w.heap.size + 1 + 1 + 1) _ (2 * h) (2 * h) (bdK j) 0 (2 * j) (2 * j + 1) HC.out (fun e => by simp [blk] at e) HR.out (by omega) (by omega) (by omega)).mono ?_
      rintro e w5 ⟨⟨v, rfl⟩, ho, b, hb, hbp, hbl, hg⟩
      obtain rfl : w.heap.size + 1 + 1 = b := by simpa [blk] using hb
      have HS5 := Lib.hid (HS.out.grownR hg (fun e => by injection e; omega))
      have HZ5 := Lib.hid (HZ.out.grown hg (fun e => by injection e; omega))
      have HC5 := Lib.hid (HC.out.grownR hg (fun e => by injection e; omega))
      have HR5 := Lib.hid (ho.congr (fun i hi => bd_step j i))
      have HB5 := Lib.hid (HB.out.grown hg HB.out.size (fun b e => by injection e; omega))
      clear ho hg hb hbp hbl s1 sz
      go_wp2
      go_roundw
      case rel => exact ⟨j + 1, by omega, by go_num, HS5, HZ5, HC5, HR5, HB5⟩
      case measure => simp [intOf]; omega
    · obtain rfl : j = h := by omega
      have cz := HC.out.1
      have c0 := HC.out.2 0 _ rfl
      have c1 := HC.out.2 1 _ rfl
      have q0 : wr.cell? ⟨w.heap.size + 1, 0, none⟩ = some (.slice none 0 0) := HZ.out.cellv (i := 0) rfl
      have q1 : wr.cell? ⟨w.heap.size + 1, 1, none⟩ = some (.int .i64 0) := HZ.out.cellv (i := 1) rfl
      have f0 := HZ.out.frozen 0
      have f1 := HZ.out.frozen 1
      have lz := HZ.out.lt
      go_wp2
      refine bodyPost_ret (v := .agg #[.slice (some ⟨w.heap.size + 1 + 1, 0, none⟩) (2 * j) (2 * j), .int .i64 0]) (by simp [results, Try.results58, go_sem, q0, q1]) rfl ⟨_, _, rfl, ?_, ?_⟩
      · exact ((((HR.out.setLow (by omega) _ _).setLow (by omega) _ _).mono (by omega)).congr (fun i hi => by simp [bdK, hi]))
      · exact (HB.out.setCell (by simp) _).setCell (by simp) _
/-- the first k pairs at a border -/
def bdL : Nat → List Int
  | 0 => []
  | k + 1 => bdL k ++ [2 * (k : Int) + 1, 2 * (k : Int)]
theorem bdL_len : ∀ k, (bdL k).length = 2 * k
  | 0 => rfl
  | k + 1 => by rw [bdL, List.length_append, bdL_len k]; simp; omega
theorem bdL_get : ∀ (k i : Nat), i < 2 * k → (bdL k)[i]? = some (bdF i)
  | 0, i, h => by omega
  | k + 1, i, h => by
    rw [bdL]
    by_cases h1 : i < 2 * k
    · rw [List.getElem?_append_left (by rw [bdL_len]; exact h1)]
      exact bdL_get k i h1
    · rw [List.getElem?_append_right (by rw [bdL_len]; omega), bdL_len]
      unfold bdF
      by_cases h2 : i = 2 * k
      · subst h2
        rw [if_pos (by omega)]
        simp
      · obtain rfl : i = 2 * k + 1 := by omega
        rw [if_neg (by omega)]
        simp
        try omega
set_option maxHeartbeats 4000000 in
set_option maxRecDepth 100000 in
theorem spec_first (w : World) (h : Nat) (h8 : h ≤ 8) : Calls Try.prog 55 #[.int .i64 (h : Int)] w fun e w' => ∃ A c, e = .returned (.slice A (2 * h) c) ∧ OwnRow w' w.heap.size A (2 * h) c bdF ∧ Below w.heap.size w w' := by
  obtain ⟨i2, hi2, hz0, hz1, hz2⟩ := info_parts infoI64
  have HO1 := Lib.hid (owns_empty w 2)
  skip
  go_enter Try.func55, Try.ntmps55
  go_wp2
  go_loopw [3, 4] (fun u kv wr => ∃ k : Nat, k ≤ h ∧ kv = .int .i64 (k : Int) ∧ Hid (wr.ownsRow w.heap.size 2 1 u (2 * k) (ivs (bdL k))) ∧ Hid (Below w.heap.size w wr)) (fun _ kv _ => 100 - (intOf kv).toNat)
  case atStart => exact ⟨0, Nat.zero_le _, rfl, HO1, Lib.hid ((Below.refl _ _).alloc (Nat.le_refl _) _)⟩
  case round =>
    clear HO1
    obtain ⟨k, hk, rfl, HU, HB⟩ := hrel
    obtain ⟨Ao, co, rfl⟩ := owns_slice HU.out
    have hBz := HB.out.size
    by_cases hlt : k < h
    · have hXa := Lib.hid ((Below.refl wr.heap.size wr).alloc (Nat.le_refl _) (.cells #[.int .i64 (2 * (k : Int) + 1), .int .i64 (2 * (k : Int))] 2))
      go_wp2_with (first
        | (at_builtin; refine wpList_append_lies _ (by rfl) _ _ _ (by rfl) w.heap.size 2 i2 _ 1 8 Try.underlying22 hi2 hz0 hz1 hz2 rfl (by omega) _ (2 * k) (ivs (bdL k)) (by rfl) (owns_belowS HU.out hXa.out) ⟨wr.heap.size, 0, none⟩ 2 2 [.int .i64 (2 * (k : Int) + 1), .int .i64 (2 * (k : Int))] (by rfl) (by rfl) (World.news_of_block (cs := #[.int .i64 (2 * (k : Int) + 1), .int .i64 (2 * (k : Int))]) (t := 2) (fr := (0, 0)) (heap_alloc_new wr _)) (fun u hu => by simp at hu; rcases hu with rfl | rfl <;> rfl) (by omega) (by unfold maxLen; omega) (by omega) (by simp; omega) (wr.heap.size + 1) (by simp) ?_; intro g6 cap6 w6 hown6 hgrow6 hat6 hlt6; have HOW := Lib.hid hown6; have HGR := Lib.hid hgrow6; clear hown6 hgrow6 hat6))
      go_roundw
      case rel =>
        refine ⟨k + 1, by omega, by go_num, Lib.hid ?_, Lib.hid ((HB.out.trans (hXa.out.mono (HB.out.size))).grown HGR.out (by have := HB.out.size; simp; omega) (fun b e => by have := (HU.out.lt b e).1; omega))⟩
        have e : ivs (bdL (k + 1)) = ivs (bdL k) ++ [.int .i64 (2 * (k : Int) + 1), .int .i64 (2 * (k : Int))] := by unfold ivs; simp [bdL]
        rw [e]
        exact HOW.out
      case measure => simp [intOf]; omega
    · obtain rfl : k = h := by omega
      go_wp2
      go_ret
      exact ⟨Ao, co, rfl, ownS_one.1 (ownS_ivs HU.out (fun i hi => by unfold ivs; rw [List.getElem?_map, bdL_get k i hi]; rfl) (fun i hi => WalkArith.wf_i64 (by unfold bdF; split <;> omega)) (Nat.le_refl _) (by unfold maxLen; omega)), HB.out⟩
theorem colOut_zero {w w' : World} {z code : Int} {f : Nat → Int} (hb : Below w.heap.size w w') : ColOut 0 f z code w (.returned (.tuple #[.agg #[.slice none 0 0, .int .i64 z], .int .i64 code])) w' :=
  ⟨none, 0, rfl, ownRow_nil _ _ _, hb⟩
theorem spec_firstColumn_bad (w : World) (W H : Int) (A : Option Addr) (n c : Nat) (f : Nat → Int) (hr : Row .i64 w A n c f) (hv : validB W H n f = false) :
    Calls Try.prog 18 #[.agg #[.int .i64 W, .int .i64 H, .slice A n c]] w (ColOut 0 bdF 0 1 w) := by
  have A1 := (Below.refl w.heap.size w).alloc (Nat.le_refl _) (.cells #[.int .i64 W, .int .i64 H, .slice A n c] 33)
  have HL := Lib.hid (A1.alloc A1.size (.cells #[.slice none 0 0, .int .i64 0] 30))
  have hz := At.new (w.alloc (.cells #[.int .i64 W, .int .i64 H, .slice A n c] 33)) #[.slice none 0 0, .int .i64 0] 30
  rw [World.size_alloc] at hz
  have HC := Lib.hid (specOk_is hv ((Box.new w 33 W H A n c).below ((Below.refl _ _).alloc (Nat.le_refl _) (.cells #[.slice none 0 0, .int .i64 0] 30)) (by simp)) (hr.below HL.out (Nat.le_refl _)))
  have HZ := Lib.hid hz
  clear hr hv A1 hz
  go_enter Try.func18, Try.ntmps18
  go_wp2_with fail
  refine HC.out.mono ?_
  rintro e w1 ⟨m, rfl, rfl⟩
  have HB := Lib.hid (below_drewN HL.out m)
  have HZ1 := Lib.hid (HZ.out.below (below_drewN (Below.refl ((w.alloc (.cells #[.int .i64 W, .int .i64 H, .slice A n c] 33)).alloc (.cells #[.slice none 0 0, .int .i64 0] 30)).heap.size _) m) HZ.out.lt)
  have q0 := HZ1.out.cellv (i := 0) rfl
  have q1 := HZ1.out.cellv (i := 1) rfl
  have f0 := HZ1.out.frozen 0
  have f1 := HZ1.out.frozen 1
  have lz := HZ1.out.lt
  generalize ((w.alloc (.cells #[.int .i64 W, .int .i64 H, .slice A n c] 33)).alloc (.cells #[.slice none 0 0, .int .i64 0] 30)).drewN m = w2 at *
  go_wp2
  refine bodyPost_ret (v := .tuple #[.agg #[.slice none 0 0, .int .i64 0], .int .i64 1]) (by simp [results, Try.results18, go_sem, q0, q1]) rfl (colOut_zero ?_)
  exact (HB.out.setCell (by simp) _).setCell (by simp) _
set_option maxHeartbeats 1000000 in
theorem spec_firstColumn_ok (w : World) (W : Int) (h : Nat) (A : Option Addr) (n c : Nat) (f : Nat → Int) (hr : Row .i64 w A n c f) (hv : validB W h n f = true) :
    Calls Try.prog 18 #[.agg #[.int .i64 W, .int .i64 (h : Int), .slice A n c]] w (ColOut (2 * h) bdF 0 0 w) := by
  obtain ⟨-, sH, -, -⟩ := validB_yes hv
  obtain ⟨s1, s2⟩ := side_mk sH
  clear sH
  have A1 := (Below.refl w.heap.size w).alloc (Nat.le_refl _) (.cells #[.int .i64 W, .int .i64 (h : Int), .slice A n c] 33)
  have HL := Lib.hid (A1.alloc A1.size (.cells #[.slice none 0 0, .int .i64 0] 30))
  have hz := At.new (w.alloc (.cells #[.int .i64 W, .int .i64 (h : Int), .slice A n c] 33)) #[.slice none 0 0, .int .i64 0] 30
  rw [World.size_alloc] at hz
  have HX := Lib.hid ((Box.new w 33 W (h : Int) A n c).below ((Below.refl _ _).alloc (Nat.le_refl _) (.cells #[.slice none 0 0, .int .i64 0] 30)) (by simp))
  have HR := Lib.hid (hr.below HL.out (Nat.le_refl _))
  have HZ := Lib.hid hz
  have HV := Lib.hid hv
  clear hr hv A1 hz
  go_enter Try.func18, Try.ntmps18
  go_wp2_with fail
  refine (specOk_is HV.out HX.out HR.out).mono ?_
  rintro e w1 ⟨m, rfl, rfl⟩
  have HB := Lib.hid (below_drewN HL.out m)
  have HZ1 := Lib.hid (HZ.out.below (below_drewN (Below.refl ((w.alloc (.cells #[.int .i64 W, .int .i64 (h : Int), .slice A n c] 33)).alloc (.cells #[.slice none 0 0, .int .i64 0] 30)).heap.size _) m) HZ.out.lt)
  have HX1 := Lib.hid (HX.out.below (below_drewN (Below.refl ((w.alloc (.cells #[.int .i64 W, .int .i64 (h : Int), .slice A n c] 33)).alloc (.cells #[.slice none 0 0, .int .i64 0] 30)).heap.size _) m) HX.out.1)
  clear HL HX HZ HR
  generalize ((w.alloc (.cells #[.int .i64 W, .int .i64 (h : Int), .slice A n c] 33)).alloc (.cells #[.slice none 0 0, .int .i64 0] 30)).drewN m = w2 at *
  obtain ⟨kz, -, k1, -⟩ := HX1.out
  go_wp2_with fail
  refine (spec_first w2 h (by omega)).mono ?_
  rintro e w3 ⟨A', c', rfl, ho, b3⟩
  have HZ3 := Lib.hid (HZ1.out.below b3 HZ1.out.lt)
  have HB3 := Lib.hid (HB.out.trans (b3.mono HB.out.size))
  have HO3 := Lib.hid ho
  have hbz := HB.out.size
  have hzl := HZ1.out.lt
  clear ho b3
  have q0 := HZ3.out.cellv (i := 0) rfl
  have q1 := HZ3.out.cellv (i := 1) rfl
  have f0 := HZ3.out.frozen 0
  have f1 := HZ3.out.frozen 1
  have lz := HZ3.out.lt
  go_wp2
  refine bodyPost_ret (v := .tuple #[.agg #[.slice A' (2 * h) c', .int .i64 0], .int .i64 0]) (by simp [results, Try.results18, go_sem, q0, q1]) rfl ⟨A', c', rfl, ?_, ?_⟩
  · exact ((HO3.out.setLow (by omega) _ _).setLow (by omega) _ _).mono (by omega)
  · exact (HB3.out.setCell (by simp) _).setCell (by simp) _
theorem vpanel_is {w : World} {W H : Int} {A : Option Addr} {n c : Nat} {f : Nat → Int} {v : Bool} (h : validB W H n f = v) (hr : Row .i64 w A n c f) :
    Calls Try.prog 56 #[.agg #[.int .i64 W, .int .i64 H, .slice A n c]] w (Gives (.bool v) w) := by rw [← h]; exact impl_validPanel w W H A n c f hr
theorem impl_firstColumn_bad (w : World) (W H : Int) (A : Option Addr) (n c : Nat) (f : Nat → Int) (hr : Row .i64 w A n c f) (hv : validB W H n f = false) :
    Calls Try.prog 20 #[.agg #[.int .i64 W, .int .i64 H, .slice A n c]] w (ColOut 0 bdF 0 1 w) := by
  have A1 := (Below.refl w.heap.size w).alloc (Nat.le_refl _) (.cells #[.int .i64 W, .int .i64 H, .slice A n c] 33)
  have HL := Lib.hid (A1.alloc A1.size (.cells #[.slice none 0 0, .int .i64 0] 30))
  have hz := At.new (w.alloc (.cells #[.int .i64 W, .int .i64 H, .slice A n c] 33)) #[.slice none 0 0, .int .i64 0] 30
  rw [World.size_alloc] at hz
  have HX := Lib.hid ((Box.new w 33 W H A n c).below ((Below.refl _ _).alloc (Nat.le_refl _) (.cells #[.slice none 0 0, .int .i64 0] 30)) (by simp))
  have HR := Lib.hid (hr.below HL.out (Nat.le_refl _))
  have HZ := Lib.hid hz
  have HV := Lib.hid hv
  clear hr hv A1 hz
  obtain ⟨kz, k0, k1, k2⟩ := HX.out
  go_enter Try.func20, Try.ntmps20
  go_wp2_with fail
  refine (vpanel_is HV.out HR.out).mono ?_
  rintro e w1 ⟨rfl, b1⟩
  have HB := Lib.hid (HL.out.trans (b1.mono HL.out.size))
  have HZ1 := Lib.hid (HZ.out.below b1 HZ.out.lt)
  clear b1
  have q0 := HZ1.out.cellv (i := 0) rfl
  have q1 := HZ1.out.cellv (i := 1) rfl
  have f0 := HZ1.out.frozen 0
  have f1 := HZ1.out.frozen 1
  have lz := HZ1.out.lt
  go_wp2
  refine bodyPost_ret (v := .tuple #[.agg #[.slice none 0 0, .int .i64 0], .int .i64 1]) (by simp [results, Try.results20, go_sem, q0, q1]) rfl (colOut_zero ?_)
  exact (HB.out.setCell (by simp) _).setCell (by simp) _
set_option maxHeartbeats 1000000 in
theorem impl_firstColumn_ok (w : World) (W : Int) (h : Nat) (A : Option Addr) (n c : Nat) (f : Nat → Int) (hr : Row .i64 w A n c f) (hv : validB W h n f = true) :
    Calls Try.prog 20 #[.agg #[.int .i64 W, .int .i64 (h : Int), .slice A n c]] w (ColOut (2 * h) bdF 0 0 w) := by
  obtain ⟨-, sH, -, -⟩ := validB_yes hv
  obtain ⟨s1, s2⟩ := side_mk sH
  clear sH
  have A1 := (Below.refl w.heap.size w).alloc (Nat.le_refl _) (.cells #[.int .i64 W, .int .i64 (h : Int), .slice A n c] 33)
  have HL := Lib.hid (A1.alloc A1.size (.cells #[.slice none 0 0, .int .i64 0] 30))
  have hz := At.new (w.alloc (.cells #[.int .i64 W, .int .i64 (h : Int), .slice A n c] 33)) #[.slice none 0 0, .int .i64 0] 30
  rw [World.size_alloc] at hz
  have HX := Lib.hid ((Box.new w 33 W (h : Int) A n c).below ((Below.refl _ _).alloc (Nat.le_refl _) (.cells #[.slice none 0 0, .int .i64 0] 30)) (by simp))
  have HR := Lib.hid (hr.below HL.out (Nat.le_refl _))
  have HZ := Lib.hid hz
  have HV := Lib.hid hv
  clear hr hv A1 hz
  have HX0 := HX.out
  obtain ⟨kz, k0, k1, k2⟩ := HX.out
  go_enter Try.func20, Try.ntmps20
  go_wp2_with fail
  refine (vpanel_is HV.out HR.out).mono ?_
  rintro e w1 ⟨rfl, b1⟩
  have HB := Lib.hid (HL.out.trans (b1.mono HL.out.size))
  have HZ1 := Lib.hid (HZ.out.below b1 HZ.out.lt)
  have HX1 := Lib.hid (HX.out.below b1 HX.out.1)
  clear b1 HL HX HZ HR kz k0 k1 k2 HX0
  obtain ⟨kz, k0, k1, k2⟩ := HX1.out
  go_wp2_with fail
  refine (sizeOf_any _ W h A n c).mono ?_
  rintro e w2 ⟨rfl, b2⟩
  have HB2 := Lib.hid (HB.out.trans (b2.mono HB.out.size))
  have HZ2 := Lib.hid (HZ1.out.below b2 HZ1.out.lt)
  clear b2 kz k0 k1 k2
  go_wp2_with fail
  refine (impl_atBorder w2 W h (by omega) (by omega)).mono ?_
  rintro e w3 ⟨A', c', rfl, ho, b3⟩
  have HZ3 := Lib.hid (HZ2.out.below b3 HZ2.out.lt)
  have HB3 := Lib.hid (HB2.out.trans (b3.mono HB2.out.size))
  have HO3 := Lib.hid ho
  have hbz := HB2.out.size
  have hzl := HZ2.out.lt
  clear ho b3
  have q0 := HZ3.out.cellv (i := 0) rfl
  have q1 := HZ3.out.cellv (i := 1) rfl
  have f0 := HZ3.out.frozen 0
  have f1 := HZ3.out.frozen 1
  have lz := HZ3.out.lt
  go_wp2
  refine bodyPost_ret (v := .tuple #[.agg #[.slice A' (2 * h) c', .int .i64 0], .int .i64 0]) (by simp [results, Try.results20, go_sem, q0, q1]) rfl ⟨A', c', rfl, ?_, ?_⟩
  · exact ((HO3.out.setLow (by omega) _ _).setLow (by omega) _ _).mono (by omega)
  · exact (HB3.out.setCell (by simp) _).setCell (by simp) _
end Go.Proofs.Ytpkajonnopmciaa.Base
