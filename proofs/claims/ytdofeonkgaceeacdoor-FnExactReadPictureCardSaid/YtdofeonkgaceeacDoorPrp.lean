/-
  The program's reader of pictures: the whole picture.
-/
import Derived.Test.YtdofeonkgaceeacDoorPrl
import Derived.Deep.Cut
import Derived.Deep.DeepCutAuto
namespace Go.Proofs.YtdofeonkgaceeacDoor.Base
open Go Go.RowKit
open Go.PlainAid (bt get_bt bt_nonneg bt_le)
set_option linter.unusedVariables false
set_option linter.unusedSimpArgs false

/-- the kinds of the first y lines -/
def allL (W H : Int) (M : Nat) (g : Nat → ByteArray) : Nat → List Value
  | 0 => []
  | y + 1 => lineL W H (g y) y (allL W H M g y) M
theorem allL_len (W H : Int) (M : Nat) (g : Nat → ByteArray) : ∀ y, (allL W H M g y).length ≤ y * M
  | 0 => Nat.zero_le _
  | y + 1 => by
    have h1 := allL_len W H M g y
    have h2 := lineL_len W H (g y) y (allL W H M g y) M
    show (lineL W H (g y) y (allL W H M g y) M).length ≤ _
    rw [Nat.succ_mul]
    omega
/-- what readPicture leaves -/
def PicOut (tt : TypeId) (p : Int → Value) (n : Nat) (g : Nat → ByteArray) (w : World) (e : Ending) (w' : World) : Prop :=
  ∃ q y x : Int, FltIs n g q y x ∧ Below w.heap.size w w' ∧
    ((q ≠ 0 ∧ e = .returned (.tuple #[.agg #[.int .i64 0, .int .i64 0, .slice none 0 0], .iface 61 (.agg #[.iface tt (p q), .int .i64 x, .int .i64 y])])) ∨
     (q = 0 ∧ ∃ u L, L = allL (((g 0).size / 2 : Nat) : Int) ((n / 2 : Nat) : Int) (g 0).size g n ∧ e = .returned (.tuple #[.agg #[.int .i64 (((g 0).size / 2 : Nat) : Int), .int .i64 ((n / 2 : Nat) : Int), u], .nilIface]) ∧ w'.ownsRow w.heap.size 2 1 u L.length L))
theorem make_run {P : Program} {i2 : TypeInfo} {z : Value} (h1 : P.underlying 31 = some (.slice 2)) (h2 : P.info? 2 = some i2) (h3 : i2.zero = some z) (h4 : i2.size = 1) (h5 : i2.bytes = 8) (n : Nat) (hn : n ≤ 100000) :
    ∃ mk : World → World, (∀ wx, (Instr.makeSlice 31 (.int .i64 0) (.int .i64 (n : Int))).run P wx = .ok (.slice (some ⟨wx.heap.size, 0, none⟩) 0 n) (mk wx)) ∧
      ∀ wx, (mk wx).ownsRow wx.heap.size 2 1 (.slice (some ⟨wx.heap.size, 0, none⟩) 0 n) 0 [] ∧ Below wx.heap.size wx (mk wx) ∧ wx.heap.size < (mk wx).heap.size := by
  have h := fun wx : World => run_make_own (P := P) wx wx.heap.size 31 2 i2 z 1 h1 h2 h3 h4 .i64 .i64 n (by rw [h5]; omega) (by unfold maxLen; omega) (Nat.le_refl _)
  refine ⟨fun wx => Classical.choose (h wx), fun wx => (Classical.choose_spec (h wx)).1, fun wx => ?_⟩
  obtain ⟨-, r1, r2⟩ := Classical.choose_spec (h wx)
  exact ⟨r1, (Below.refl _ wx).grown r2 (Nat.le_refl _) (fun b e => by cases e), (r1.lt _ rfl).2⟩
theorem owns_base2 {w : World} {base base' n s : Nat} {e : TypeId} {v : Value} {xs : List Value} (h : w.ownsRow base e s v n xs) (hb : base' ≤ base) : w.ownsRow base' e s v n xs := by
  refine ⟨h.1, ?_⟩
  rcases h.2 with h0 | ⟨g, cap, cur, rfl, hb', r⟩
  · exact .inl h0
  · exact .inr ⟨g, cap, cur, rfl, Nat.le_trans hb hb', r⟩
theorem rd_fill {base P g N : Nat} {a b : Int} {w0 Y : World} (h1 : At Y P #[.int .i64 0, .int .i64 0, .int .i64 0, .int .i64 0, .slice none 0 0] 105) (h2 : Y.ownsRow base 2 1 (.slice (some ⟨g, 0, none⟩) 0 N) 0 []) (h3 : g ≠ P) (h4 : Below base w0 Y) (h5 : base ≤ P) (h6 : base ≤ w0.heap.size) :
    Rd base P a b ((0 : Nat) : Int) ((0 : Nat) : Int) [] w0 (((((Y.setCell ⟨P, 0, none⟩ (.int .i64 a)).setCell ⟨P, 1, none⟩ (.int .i64 b)).setCell ⟨P, 2, none⟩ (.int .i64 0)).setCell ⟨P, 3, none⟩ (.int .i64 0)).setCell ⟨P, 4, none⟩ (.slice (some ⟨g, 0, none⟩) 0 N)) := by
  have hp : (Value.slice (some ⟨g, 0, none⟩) 0 N).ownBlock ≠ some P := fun e => h3 (by injection e)
  refine ⟨⟨.slice (some ⟨g, 0, none⟩) 0 N, ?_, owns_set_ne (owns_set_ne (owns_set_ne (owns_set_ne (owns_set_ne h2 hp) hp) hp) hp) hp, hp⟩, ((((h4.setCell (p := ⟨P, 0, none⟩) h5 _).setCell (p := ⟨P, 1, none⟩) h5 _).setCell (p := ⟨P, 2, none⟩) h5 _).setCell (p := ⟨P, 3, none⟩) h5 _).setCell (p := ⟨P, 4, none⟩) h5 _, h5, h6⟩
  have k := ((((h1.set 0 (.int .i64 a)).set 1 (.int .i64 b)).set 2 (.int .i64 0)).set 3 (.int .i64 0)).set 4 (.slice (some ⟨g, 0, none⟩) 0 N)
  simpa using k
theorem rd_new {base g N : Nat} {a b : Int} {w0 Y : World} (h2 : Y.ownsRow base 2 1 (.slice (some ⟨g, 0, none⟩) 0 N) 0 []) (h4 : Below base w0 Y) (h5 : base ≤ Y.heap.size) (h6 : base ≤ w0.heap.size) (h7 : g < Y.heap.size) :
    Rd base Y.heap.size a b ((0 : Nat) : Int) ((0 : Nat) : Int) [] w0 (Y.alloc (.cells #[.int .i64 a, .int .i64 b, .int .i64 0, .int .i64 0, .slice (some ⟨g, 0, none⟩) 0 N] 105)) :=
  ⟨⟨.slice (some ⟨g, 0, none⟩) 0 N, At.new Y _ _, sp_below h2 ((Below.refl _ Y).alloc (Nat.le_refl _) _), fun e => by injection e with e; simp only at e; omega⟩, h4.trans ((Below.refl base Y).alloc h5 _), h5, h6⟩
set_option maxHeartbeats 4000000 in
set_option maxRecDepth 100000 in
theorem impl_readPicture (w : World) (A : Option Addr) (n c : Nat) (g : Nat → ByteArray) (hr : VRow w A n c (fun i => .string (g i))) (hn : n ≤ 1048576) (hg : ∀ i, i < n → (g i).size ≤ 1048576) (tt : TypeId) (p : Int → Value) (hE : Ers tt p w) :
    Calls Tryd.prog 41 #[.slice A n c] w (PicOut tt p n g w) := by
  obtain ⟨i2, hi2, hz0, hz1, hz2⟩ := info_parts infoI64
  have b0 := (Below.refl w.heap.size w).alloc (Nat.le_refl _) (.cells #[.int .i64 0, .int .i64 0, .slice none 0 0] 33)
  have HSz := Lib.hid (impl_picSize (w.alloc (.cells #[.int .i64 0, .int .i64 0, .slice none 0 0] 33)) A n c g (hr.below b0 (Nat.le_refl _)) hn hg)
  have HR := Lib.hid hr
  have HG := Lib.hid hg
  have HE := Lib.hid hE
  have HL0 := Lib.hid b0
  have HZ0 := Lib.hid (At.new w #[.int .i64 0, .int .i64 0, .slice none 0 0] 33)
  clear hr hg hE b0
  go_enter Tryd.func41, Tryd.ntmps41
  go_wp2_with fail
  refine HSz.out.mono ?_
  rintro e w1 ⟨a, b, rfl, hab, b1⟩
  have HAB := Lib.hid hab
  have HB1 := Lib.hid b1
  have hz1' := b1.size
  simp only [World.size_alloc] at hz1'
  have bN := (Below.refl w1.heap.size w1).alloc (Nat.le_refl _) (.cells #[.int .i64 a, .int .i64 b] 84)
  have HS2 := Lib.hid (Cel.new w1 [.int .i64 a, .int .i64 b] 84)
  have HB2 := Lib.hid (HB1.out.trans (bN.mono (by simp only [World.size_alloc]; omega)))
  have HZ2 := Lib.hid ((HZ0.out.below b1 (by simp)).below bN (by omega))
  have HEw := Lib.hid (HE.out.below (HL0.out.trans (HB2.out.mono (by simp))) (Nat.le_refl _))
  have hz2' : w1.heap.size + 1 = (w1.alloc (.cells #[.int .i64 a, .int .i64 b] 84)).heap.size := by simp
  clear hab b1 bN HSz HB1 HZ0
  have z0 := HZ2.out.cellv (i := 0) rfl
  have z1 := HZ2.out.cellv (i := 1) rfl
  have z2 := HZ2.out.cellv (i := 2) rfl
  have y0 := HZ2.out.frozen 0
  have y1 := HZ2.out.frozen 1
  have y2 := HZ2.out.frozen 2
  have k0 := HS2.out.2 0 _ rfl
  have k1 := HS2.out.2 1 _ rfl
  have kz := HS2.out.1
  cases hs : szB n g
  · have HF : Hid (FltIs n g 1 0 0) := Lib.hid (.inl ⟨hs, rfl, rfl, rfl⟩)
    have e1 := HEw.out.e1
    have e1z := HEw.out.lt.1
    go_wp2
    generalize w1.alloc (.cells #[.int .i64 a, .int .i64 b] 84) = w2 at *
    have hzw := HZ2.out.lt
    have hn1 : ¬ (w.heap.size = 1) := by have := HE.out.lt.1; omega
    have hn2 : ¬ (1 = w.heap.size) := by have := HE.out.lt.1; omega
    go_region
    all_goals
      go_wp2
      refine bodyPost_ret ?_ rfl ⟨1, 0, 0, HF.out, ?_, .inl ⟨by decide, rfl⟩⟩
      · simp [results, Tryd.results41, go_sem, z0, z1, z2]
      · exact ((((HL0.out.trans (HB2.out.mono (by simp))).setCell (p := ⟨w.heap.size, 0, none⟩) (Nat.le_refl _) _).setCell (p := ⟨w.heap.size, 1, none⟩) (Nat.le_refl _) _).setCell (p := ⟨w.heap.size, 2, none⟩) (Nat.le_refl _) _).drew
  · obtain ⟨p1, p2, p3, p4⟩ := szB_yes hs
    obtain ⟨ea, eb⟩ := HAB.out hs
    have hn0 : 0 < n := by omega
    obtain ⟨M, hM⟩ : ∃ M, (g 0).size = M := ⟨_, rfl⟩
    have HIN : Hid (∀ q y x : Int, FltIn n g a b M q y x → FltIs n g q y x) := Lib.hid (fun q y x h => .inr ⟨hs, by rw [← ea, ← eb, hM]; exact h⟩)
    rw [← ea] at p4
    rw [← eb] at p2
    have hMa : (M : Int) = 2 * a + 1 := by omega
    have hnb : (n : Int) = 2 * b + 1 := by omega
    obtain ⟨a1, a2⟩ := side_mk p4
    obtain ⟨b1, b2⟩ := side_mk p2
    obtain ⟨i1, i2'⟩ := inner_bd' p4 p2
    obtain ⟨N, hN⟩ : ∃ N : Nat, inner a b = (N : Int) := ⟨(inner a b).toNat, by omega⟩
    have hN112 : N ≤ 112 := by omega
    have hM17 : M ≤ 17 := by omega
    have hn17 : n ≤ 17 := by omega
    obtain ⟨mk, hmk, hmks⟩ := make_run (P := Tryd.prog) (z := .int .i64 0) Tryd.underlying31 hi2 hz0 hz1 hz2 N (by omega)
    have HMA := Lib.hid hMa
    have HMK := Lib.hid hmks
    have HNN := Lib.hid hN
    have HWs := Lib.hid p4
    have HHs := Lib.hid p2
    have HAB2 : Hid (((((g 0).size / 2 : Nat) : Int) = a) ∧ (((n / 2 : Nat) : Int) = b) ∧ (g 0).size = M) := Lib.hid ⟨ea.symm, eb.symm, hM⟩
    obtain ⟨bA, oA, rfl, hbA, hcA⟩ := HR.out.2.2 hn0
    have HCA := Lib.hid hcA
    have hnc := HR.out.1
    have hcm := HR.out.2.1
    unfold maxLen at hcm
    clear p1 p2 p3 p4 hs ea eb hM hMa hnb i1 i2' hN hmks HAB hcA HR
    go_upto_region 4 with (fail)
    generalize w1.alloc (.cells #[.int .i64 a, .int .i64 b] 84) = w2 at *
    have hzw := HZ2.out.lt
    clear z0 z1 z2 y0 y1 y2
    have hmc : ∀ (wx : World) (k o : Nat), k < wx.heap.size → (mk wx).cell? ⟨k, o, none⟩ = wx.cell? ⟨k, o, none⟩ := fun wx => (bcell (HMK.out wx).2.1).1
    have hmf : ∀ (wx : World) (k o : Nat), k < wx.heap.size → (mk wx).frozen? ⟨k, o, none⟩ = wx.frozen? ⟨k, o, none⟩ := fun wx => (bcell (HMK.out wx).2.1).2
    have hms : ∀ (wx : World), wx.heap.size < (mk wx).heap.size := fun wx => (HMK.out wx).2.2
    have l5 : w1.heap.size < w2.heap.size + 1 := by omega
    have l5' : w.heap.size < w2.heap.size + 1 := by omega
    have HK0 := Lib.hid k0
    have HK1 := Lib.hid k1
    go_cut [6] (fun s6 wx => ∃ P : Nat, s6 = .pointer (some ⟨P, 0, none⟩) ∧ Hid (Rd w2.heap.size P a b ((0 : Nat) : Int) ((0 : Nat) : Int) [] w2 wx))
    case first =>
      go_region_with (first
        | (go_at_call 78; (with_reducible refine (HNN.out ▸ innerPts_any a b HWs.out HHs.out _).mono ?_); rintro e wc ⟨rfl, bc⟩; have hcc := (bcell bc).1; have hcf := (bcell bc).2; have HCb : Below w2.heap.size w2 wc := (by first | exact ((Below.refl _ w2).drew).trans bc | exact (((Below.refl _ w2).drew).alloc (Nat.le_refl _) _).trans (bc.mono (by simp))); have m0 := cell_be k0 HCb kz; have m1 := cell_be k1 HCb kz; have HCB := Lib.hid HCb; clear HCb; have hcz : w2.heap.size ≤ wc.heap.size := (by have h := bc.size; first | exact h | (simp at h; omega)); have l1 : w1.heap.size < wc.heap.size := (by omega); have l2 : w.heap.size < wc.heap.size := (by omega); have l6 : w1.heap.size < (mk wc).heap.size := (by have := hms wc; omega); have l7 : w1.heap.size < wc.heap.size + 1 := (by omega); have l8 : ∀ o, w1.heap.size < (mk (wc.alloc o)).heap.size := (fun o => by have := hms (wc.alloc o); simp only [World.size_alloc] at this; omega); have l9 : ∀ o, wc.heap.size < (mk (wc.alloc o)).heap.size := (fun o => by have := hms (wc.alloc o); simp only [World.size_alloc] at this; omega); first | (have l3 : w2.heap.size < wc.heap.size := (by have h := bc.size; simp at h; omega)) | skip))
      all_goals (go_wp2_with fail; go_meet)
      all_goals (refine ⟨_, rfl, Lib.hid ?_⟩)
      all_goals first
        | (with_reducible refine rd_new ?_ ?_ ?_ ?_ ?_
           · exact owns_base2 (HMK.out wc).1 hcz
           · exact HCB.out.trans ((HMK.out wc).2.1.mono hcz)
           · have := hms wc; omega
           · exact Nat.le_refl _
           · exact hms wc)
        | (have hq := HMK.out (wc.alloc (.cells #[.int .i64 0, .int .i64 0, .int .i64 0, .int .i64 0, .slice none 0 0] 105))
           have ha := At.new wc #[.int .i64 0, .int .i64 0, .int .i64 0, .int .i64 0, .slice none 0 0] 105
           have hb := (HCB.out.alloc hcz (.cells #[.int .i64 0, .int .i64 0, .int .i64 0, .int .i64 0, .slice none 0 0] 105)).trans (hq.2.1.mono (by simp only [World.size_alloc]; omega))
           have ha' := ha.below hq.2.1 (by simp only [World.size_alloc]; omega)
           simp only [World.size_alloc] at hq
           with_reducible refine rd_fill ha' (owns_base2 hq.1 ?_) ?_ hb hcz ?_
           · omega
           · omega
           · exact Nat.le_refl _)
        | (have ha : At wc w2.heap.size #[.int .i64 0, .int .i64 0, .int .i64 0, .int .i64 0, .slice none 0 0] 105 := (by first | exact (At.new w2 _ _).below bc (by simp) | exact (At.new w2.drew _ _).below bc (by simp) | exact At.below (w := (w2.alloc _).drew) (At.new w2 _ _) bc (by simp))
           have ha' := ha.below (HMK.out wc).2.1 l3
           have hb := HCB.out.trans ((HMK.out wc).2.1.mono hcz)
           with_reducible refine rd_fill ha' (owns_base2 (HMK.out wc).1 hcz) ?_ hb ?_ ?_
           · omega
           · exact Nat.le_refl _
           · exact Nat.le_refl _)
    case rest =>
      obtain ⟨P, rfl, HRd⟩ := hcut
      have HBW : Hid (Below w.heap.size w w2) := Lib.hid (HL0.out.trans (HB2.out.mono (by simp)))
      have HEB : Hid (∀ q, q ∈ [1, 3, 4, 5, 6] → q < w2.heap.size) := Lib.hid (fun q hq => by
        have h := HEw.out.lt
        simp only [List.mem_cons, List.not_mem_nil, or_false] at hq
        rcases hq with rfl | rfl | rfl | rfl | rfl
        · exact h.1
        · exact h.2.1
        · exact h.2.2.1
        · exact h.2.2.2.1
        · exact h.2.2.2.2)
      have HPb := HRd.out.hb
      have HR0 : Hid (Rd w2.heap.size P a b ((0 : Nat) : Int) ((0 : Nat) : Int) (allL a b M g 0) w2 wc) := Lib.hid HRd.out
      clear HRd k0 k1 hmc hmf hms hmk HMK
      go_wp2
      go_loopw [28] (fun kv wr => ∃ y : Nat, y ≤ n ∧ kv = .int .i64 y ∧ Hid (∀ j, j < y → GoodL a b M g j) ∧ Hid (Rd w2.heap.size P a b ((0 : Nat) : Int) ((y : Nat) : Int) (allL a b M g y) w2 wr)) (fun kv _ => n - (intOf kv).toNat)
      case atStart => exact ⟨0, Nat.zero_le _, rfl, Lib.hid (fun i hi => absurd hi (Nat.not_lt_zero _)), HR0⟩
      case round =>
        clear HR0
        obtain ⟨y, hy, rfl, HZ, HRk⟩ := hrel
        have HRb := HRk.out.bel
        have hrz := HRb.size
        by_cases hlt : y < n
        · have hyn : y < n := by omega
          have s3 : wr.cell? ⟨bA, oA + y, none⟩ = some (.string (g y)) := cell_be (HCA.out y hlt) (HBW.out.trans (HRb.mono (by omega))) hbA
          have hbr : bA < wr.heap.size := by omega
          have hln := allL_len a b M g y
          have hyM : y * M ≤ 17 * 17 := Nat.mul_le_mul (by omega) hM17
          have HS := Lib.hid (impl_readLine wr w2 w2.heap.size P a b M y (by omega) (g y) (HG.out y hlt) (allL a b M g y) (by omega) tt p HWs.out HHs.out HMA.out HEw.out HEB.out HRk.out)
          unfold LineOut at HS
          clear HRb
          go_wp2_with fail
          refine HS.out.mono ?_
          rintro e w6 ho
          have HO := Lib.hid ho
          clear ho HS s3 hbr
          have hO2 : (∃ q x : Int, ∃ L, q ≠ 0 ∧ e = .returned (.iface tt (p q)) ∧ FltIn n g a b M q y x ∧ Rd w2.heap.size P a b x y L w2 w6) ∨ (e = .returned .nilIface ∧ GoodL a b M g y ∧ Rd w2.heap.size P a b ((0 : Nat) : Int) ((y + 1 : Nat) : Int) (allL a b M g (y + 1)) w2 w6) := by
            rcases HO.out with ⟨h1, h2, h3⟩ | ⟨h1, h2, h3, h4⟩ | ⟨h1, k, h2, h3, h4, h5, h6⟩
            · exact .inl ⟨2, ((0 : Nat) : Int), _, by decide, h2, .inr ⟨y, hlt, HZ.out, rfl, .inl ⟨h1, rfl, rfl⟩⟩, h3⟩
            · exact .inr ⟨h3, ⟨h1, h2⟩, h4⟩
            · exact .inl ⟨_, (k : Int), _, h4, by rw [h5]; unfold erV; rw [if_neg h4], .inr ⟨y, hlt, HZ.out, rfl, .inr ⟨h1, k, h2, h3, rfl, h4, rfl⟩⟩, h6⟩
          rcases hO2 with ⟨q, x, L, hq0, rfl, hF, hr⟩ | ⟨rfl, hgd, hr⟩
          · have HFI := Lib.hid (HIN.out q y x hF)
            have HRr := Lib.hid hr
            have HQ0 := Lib.hid hq0
            clear HO hF hr hq0
            obtain ⟨u, hat, hown, hne⟩ := HRr.out.at_
            have hPl := hat.lt
            have d2 : w6.cell? ⟨P, 2, none⟩ = some (.int .i64 x) := hat.cellv (i := 2) rfl
            have d3 : w6.cell? ⟨P, 3, none⟩ = some (.int .i64 (y : Int)) := hat.cellv (i := 3) rfl
            have hz6 := HZ2.out.below HRr.out.bel hzw
            have z0 : w6.cell? ⟨w.heap.size, 0, none⟩ = some (.int .i64 0) := hz6.cellv (i := 0) rfl
            have z1 : w6.cell? ⟨w.heap.size, 1, none⟩ = some (.int .i64 0) := hz6.cellv (i := 1) rfl
            have z2 : w6.cell? ⟨w.heap.size, 2, none⟩ = some (.slice none 0 0) := hz6.cellv (i := 2) rfl
            have y0 := hz6.frozen 0
            have y1 := hz6.frozen 1
            have y2 := hz6.frozen 2
            have hn1 : ¬ (w.heap.size = P) := by omega
            have hn2 : ¬ (P = w.heap.size) := by omega
            have hzl := hz6.lt
            clear hat hown hne hz6
            go_wp2_with fail
            go_region
            all_goals
              go_wp2
              refine bodyPost_ret ?_ rfl ⟨q, y, x, HFI.out, ?_, .inl ⟨HQ0.out, rfl⟩⟩
              · simp [results, Tryd.results41, go_sem, z0, z1, z2]
              · exact ((((HBW.out.trans (HRr.out.bel.mono (by omega))).setCell (p := ⟨w.heap.size, 0, none⟩) (Nat.le_refl _) _).setCell (p := ⟨w.heap.size, 1, none⟩) (Nat.le_refl _) _).setCell (p := ⟨w.heap.size, 2, none⟩) (Nat.le_refl _) _).drew
          · have HRr := Lib.hid hr
            have HGD := Lib.hid hgd
            clear HO hgd hr
            go_wp2
            go_roundw
            case rel =>
              refine ⟨y + 1, by omega, by go_num, Lib.hid (fun j hj => ?_), Lib.hid HRr.out⟩
              rcases Nat.lt_succ_iff_lt_or_eq.1 hj with h | rfl
              · exact HZ.out j h
              · exact HGD.out
            case measure => simp [intOf]; omega
        · obtain rfl : y = n := by omega
          obtain ⟨u, hat, hown, hne⟩ := HRk.out.at_
          obtain ⟨uA, uc, rfl⟩ : ∃ A' c', u = .slice A' (allL a b M g y).length c' := (by
            rcases hown.2 with ⟨rfl, h⟩ | ⟨g', cap, cur, rfl, -⟩
            · exact ⟨none, 0, by rw [h]⟩
            · exact ⟨_, _, rfl⟩)
          have HOW := Lib.hid hown
          have hPl := hat.lt
          have d4 : wr.cell? ⟨P, 4, none⟩ = some (.slice uA (allL a b M g y).length uc) := hat.cellv (i := 4) rfl
          have hz6 := HZ2.out.below HRk.out.bel hzw
          have z0 : wr.cell? ⟨w.heap.size, 0, none⟩ = some (.int .i64 0) := hz6.cellv (i := 0) rfl
          have z1 : wr.cell? ⟨w.heap.size, 1, none⟩ = some (.int .i64 0) := hz6.cellv (i := 1) rfl
          have z2 : wr.cell? ⟨w.heap.size, 2, none⟩ = some (.slice none 0 0) := hz6.cellv (i := 2) rfl
          have y0 := hz6.frozen 0
          have y1 := hz6.frozen 1
          have y2 := hz6.frozen 2
          have k0 : wr.cell? ⟨w1.heap.size, 0, none⟩ = some (.int .i64 a) := cell_be HK0.out HRk.out.bel kz
          have k1 : wr.cell? ⟨w1.heap.size, 1, none⟩ = some (.int .i64 b) := cell_be HK1.out HRk.out.bel kz
          have hn1 : ¬ (w.heap.size = P) := by omega
          have hn2 : ¬ (P = w.heap.size) := by omega
          have hn3 : ¬ (w.heap.size = w1.heap.size) := by omega
          have hn4 : ¬ (w1.heap.size = w.heap.size) := by omega
          have hn5 : ¬ (w1.heap.size = P) := by omega
          have hn6 : ¬ (P = w1.heap.size) := by omega
          have hzl := hz6.lt
          have HFI := Lib.hid (HIN.out 0 0 0 (.inl ⟨HZ.out, rfl, rfl, rfl⟩))
          clear hat hown hne hz6 HRb
          go_wp2
          refine bodyPost_ret ?_ rfl ⟨0, 0, 0, HFI.out, ?_, .inr ⟨rfl, .slice uA (allL a b M g y).length uc, allL a b M g y, ?_, rfl, ?_⟩⟩
          · rw [HAB2.out.1, HAB2.out.2.1]
            simp [results, Tryd.results41, go_sem, z0, z1, z2]
          · exact (((HBW.out.trans (HRk.out.bel.mono (by omega))).setCell (p := ⟨w.heap.size, 0, none⟩) (Nat.le_refl _) _).setCell (p := ⟨w.heap.size, 1, none⟩) (Nat.le_refl _) _).setCell (p := ⟨w.heap.size, 2, none⟩) (Nat.le_refl _) _
          · rw [HAB2.out.1, HAB2.out.2.1, HAB2.out.2.2]
          · exact owns_base2 (base := w2.heap.size) (owns_set (owns_set (owns_set HOW.out hzw) hzw) hzw) (by omega)
end Go.Proofs.YtdofeonkgaceeacDoor.Base
