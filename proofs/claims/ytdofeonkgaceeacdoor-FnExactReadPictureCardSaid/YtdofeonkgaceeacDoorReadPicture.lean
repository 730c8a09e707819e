/- Proved: whatever lines (of at most 2^20 lines and bytes together; for more the law answers true at once), valid UTF-8 or not, ReadPicture of the program is called with, it answers as the model and changes nothing; the tables and errors of Go's library start as its text lays them (the card ties them). -/
import Derived.Test.YtdofeonkgaceeacDoorCards
import Derived.Test.YtdofeonkgaceeacDoorTie
import Derived.Test.YtdofeonkgaceeacDoorBase
import Derived.Test.YtdofeonkgaceeacDoorPan
import Derived.Test.YtdofeonkgaceeacDoorMark
import Derived.Test.YtdofeonkgaceeacDoorNew
import Derived.Test.YtdofeonkgaceeacDoorShape
import Derived.Test.YtdofeonkgaceeacDoorSpt
import Derived.Test.YtdofeonkgaceeacDoorSta
import Derived.Test.YtdofeonkgaceeacDoorRdq
import Derived.WalkKit
import Derived.ProofKit
import Derived.OpenShut
import Derived.ShutString
import Derived.OpenVars
import Derived.Handy
import Derived.Carry
import Derived.Deep.DeepHandedRow
import Derived.Lib.LaidTab
import Derived.Lib.SmallJoins
import Derived.Stop.LaidErr
import Derived.Lib.ItoaMem
namespace Go.Proofs.YtdofeonkgaceeacDoor.fnExactReadPicture
open Go.ChangeShapes Go.WideShapes Go.ChangeAt Go.RowKit Go.Joins
open Go.ChangeMaps (open_string shut_string)
open Go.Proofs.YtdofeonkgaceeacDoor.Base
set_option linter.unusedVariables false
theorem own : ownKnob Tryd.prog.godebug = none := by kernel_rfl
theorem laidOut : laidOutB Tryd.prog = true := by kernel_rfl
theorem laid_tail {P : Program} {x : String × DataW Unit} {r : List (String × DataW Unit)} {W : World} (h : laidMet P (x :: r) W) : laidMet P r W := by
  obtain ⟨ps, ⟨g, t, cs, fuel, p, q, h1, h2, h3, h4, h5, e⟩, hn, hr⟩ := h
  subst e
  exact ⟨q, h5, (List.nodup_append.1 hn).2.1, fun b off hp => hr b off (List.mem_append_right _ hp)⟩
theorem star : "*" ++ "errors.errorString" = "*errors.errorString" := by decide
theorem typeUnique : ∀ u, Tryd.prog.typeName? 3 u = some "*errors.errorString" → u = 185 := fun u h =>
  typeName_ptr_named (nm := "errors.errorString") (by rw [star]; kernel_rfl) (by kernel_rfl) (by decide) u (by rw [star]; exact h)
theorem ser1 {W : World} (h : laidMetH Tryd.prog Rows.fnExactReadPictureRow.laid W) : ∃ p, W.cell? ⟨1, 0, none⟩ = some (.iface 185 p) := by
  rw [MakeChecks.laidMetH_plain _ _ _ (by kernel_rfl)] at h
  obtain ⟨a, s, h1, -, -, -⟩ := laid_sentinel (tp := 185) (g := 1) h (by kernel_rfl) (by kernel_rfl) Tryd.underlying57 (fun u hu => typeUnique u hu) Tryd.underlying185 Tryd.underlying209 rfl rfl Tryd.underlying9 (by kernel_rfl) (by kernel_rfl)
  exact ⟨_, by rw [World.var?_cell (g := 1) (by kernel_rfl) h1 0]; rfl⟩
theorem ser2 {W : World} (h : laidMetH Tryd.prog Rows.fnExactReadPictureRow.laid W) : ∃ p, W.cell? ⟨3, 0, none⟩ = some (.iface 185 p) := by
  rw [MakeChecks.laidMetH_plain _ _ _ (by kernel_rfl)] at h
  obtain ⟨a, s, h1, -, -, -⟩ := laid_sentinel (tp := 185) (g := 3) (laid_tail h) (by kernel_rfl) (by kernel_rfl) Tryd.underlying57 (fun u hu => typeUnique u hu) Tryd.underlying185 Tryd.underlying209 rfl rfl Tryd.underlying9 (by kernel_rfl) (by kernel_rfl)
  exact ⟨_, by rw [World.var?_cell (g := 3) (by kernel_rfl) h1 0]; rfl⟩
theorem ser3 {W : World} (h : laidMetH Tryd.prog Rows.fnExactReadPictureRow.laid W) : ∃ p, W.cell? ⟨4, 0, none⟩ = some (.iface 185 p) := by
  rw [MakeChecks.laidMetH_plain _ _ _ (by kernel_rfl)] at h
  obtain ⟨a, s, h1, -, -, -⟩ := laid_sentinel (tp := 185) (g := 4) (laid_tail (laid_tail h)) (by kernel_rfl) (by kernel_rfl) Tryd.underlying57 (fun u hu => typeUnique u hu) Tryd.underlying185 Tryd.underlying209 rfl rfl Tryd.underlying9 (by kernel_rfl) (by kernel_rfl)
  exact ⟨_, by rw [World.var?_cell (g := 4) (by kernel_rfl) h1 0]; rfl⟩
theorem ser4 {W : World} (h : laidMetH Tryd.prog Rows.fnExactReadPictureRow.laid W) : ∃ p, W.cell? ⟨5, 0, none⟩ = some (.iface 185 p) := by
  rw [MakeChecks.laidMetH_plain _ _ _ (by kernel_rfl)] at h
  obtain ⟨a, s, h1, -, -, -⟩ := laid_sentinel (tp := 185) (g := 5) (laid_tail (laid_tail (laid_tail h))) (by kernel_rfl) (by kernel_rfl) Tryd.underlying57 (fun u hu => typeUnique u hu) Tryd.underlying185 Tryd.underlying209 rfl rfl Tryd.underlying9 (by kernel_rfl) (by kernel_rfl)
  exact ⟨_, by rw [World.var?_cell (g := 5) (by kernel_rfl) h1 0]; rfl⟩
theorem ser5 {W : World} (h : laidMetH Tryd.prog Rows.fnExactReadPictureRow.laid W) : ∃ p, W.cell? ⟨6, 0, none⟩ = some (.iface 185 p) := by
  rw [MakeChecks.laidMetH_plain _ _ _ (by kernel_rfl)] at h
  obtain ⟨a, s, h1, -, -, -⟩ := laid_sentinel (tp := 185) (g := 6) (laid_tail (laid_tail (laid_tail (laid_tail h)))) (by kernel_rfl) (by kernel_rfl) Tryd.underlying57 (fun u hu => typeUnique u hu) Tryd.underlying185 Tryd.underlying209 rfl rfl Tryd.underlying9 (by kernel_rfl) (by kernel_rfl)
  exact ⟨_, by rw [World.var?_cell (g := 6) (by kernel_rfl) h1 0]; rfl⟩
theorem ers {W : World} (h : laidMetH Tryd.prog Rows.fnExactReadPictureRow.laid W) : ∃ p : Int → Value, Ers 185 p W := by
  obtain ⟨p1, h1⟩ := ser1 h
  obtain ⟨p2, h2⟩ := ser2 h
  obtain ⟨p3, h3⟩ := ser3 h
  obtain ⟨p4, h4⟩ := ser4 h
  obtain ⟨p5, h5⟩ := ser5 h
  exact ⟨fun q => if q = 1 then p1 else if q = 2 then p2 else if q = 3 then p3 else if q = 4 then p4 else p5, ⟨h1, h2, h3, h4, h5⟩⟩
set_option maxHeartbeats 4000000 in
set_option maxRecDepth 100000 in
theorem core (w : World) (A : Option Addr) (n c : Nat) (g : Nat → ByteArray) (hr : VRow w A n c (fun i => .string (g i))) (hz : ∀ i, i < n → (g i).size ≤ maxLen) (W H code : Int) (N : Nat) (f : Nat → Int) (hN : N ≤ 1048576) (tt : TypeId) (pE : Int → Value) (hE : Ers tt pE w)
    (HS : Hid (∀ (w : World) (A : Option Addr) (c : Nat), VRow w A n c (fun i => .string (g i)) → n ≤ 1048576 → (∀ i, i < n → (g i).size ≤ 1048576) → Calls Tryd.prog 14 #[.slice A n c] w (PanelOut W H N f code w)))
    (HI : Hid (∀ (w : World) (A : Option Addr) (c : Nat), VRow w A n c (fun i => .string (g i)) → n ≤ 1048576 → (∀ i, i < n → (g i).size ≤ 1048576) → Ers tt pE w → Calls Tryd.prog 15 #[.slice A n c] w (PanelOut W H N f code w))) :
    Calls Tryd.prog 5 #[.slice A n c] w fun e w' => e = .returned (.bool true) ∧ Below w.heap.size w w' := by
  have HR := Lib.hid hr
  have HE := Lib.hid hE
  have hc : (code != code) = false := by simp
  have hm : ((1 + (N : Int)) != 1 + (N : Int)) = false := by simp
  have HSZ := Lib.hid (szTexts_any w A n c g hr hz)
  clear hr hE hz
  go_enter Tryd.func5, Tryd.ntmps5
  go_wp2_with fail
  refine HSZ.out.mono ?_
  rintro e w1 ⟨b1, v, rfl, hv⟩
  have HB1 := Lib.hid b1
  clear b1 HSZ
  rcases hv with rfl | ⟨v0, v1, hn, hg⟩
  · go_wp2
    go_ret
    exact ⟨rfl, HB1.out⟩
  have HG := Lib.hid hg
  clear hg
  go_wp2_with fail
  refine (toTexts_any _ A n c g (HR.out.below HB1.out (Nat.le_refl _)) hn).mono ?_
  rintro e w2 ⟨bS, rfl, OS, b2⟩
  have HOS := Lib.hid OS
  have HB2 := Lib.hid (HB1.out.trans (b2.mono HB1.out.size))
  clear OS b2 HB1
  go_wp2_with fail
  refine (HS.out _ _ _ HOS.out.row hn HG.out).mono ?_
  rintro e w3 ⟨A0, c0, rfl, R0, b3⟩
  have hR0 := Lib.hid R0.row
  have HB3 := Lib.hid (HB2.out.trans (b3.mono HB2.out.size))
  have z0 := HB3.out.size
  clear R0 b3 HB2 HOS
  go_wp2_with fail
  -- the box of the model's panel
  have bx := (Below.refl w3.heap.size w3).alloc (Nat.le_refl _) (.cells #[.int .i64 W, .int .i64 H, .slice A0 N c0] 33)
  have HX1 := Lib.hid (Box.new w3 33 W H A0 N c0)
  have HBX := Lib.hid bx
  clear bx
  refine (toTexts_any _ A n c g (HR.out.below (HB3.out.trans (HBX.out.mono z0)) (Nat.le_refl _)) hn).mono ?_
  rintro e w4 ⟨bQ, rfl, OQ, b4⟩
  have HQ4 := Lib.hid OQ
  have hQb : 0 < n → w3.heap.size + 1 ≤ bQ ∧ bQ < w4.heap.size := fun h0 => by
    obtain ⟨b, o, e, h1, h2, -⟩ := OQ.2.2 h0
    injection e with e
    injection e with e
    subst e
    simpa using And.intro h1 h2
  have HB4 := Lib.hid (HBX.out.trans (b4.mono (by simp)))
  have HX4 := Lib.hid (HX1.out.below b4 HX1.out.1)
  have z4 : w3.heap.size + 1 ≤ w4.heap.size := by have := b4.size; simp at this; omega
  clear OQ b4 HX1 HBX
  have hz4 := HX4.out.1
  obtain ⟨kz, k0, k1, k2⟩ := id HX4.out
  go_wp2_with fail
  clear k0 k1 k2 kz
  refine (HI.out _ _ _ HQ4.out.row hn HG.out (HE.out.below (HB3.out.trans (HB4.out.mono z0)) (Nat.le_refl _))).mono ?_
  rintro e w5 ⟨A1, c1, rfl, R1, b5⟩
  have HR5 := Lib.hid R1
  have HB5 := Lib.hid (HB4.out.trans (b5.mono (by omega)))
  have HX5 := Lib.hid (HX4.out.below b5 HX4.out.1)
  have HQ5 := Lib.hid (HQ4.out.below b5 (Nat.le_refl _))
  have z5 := b5.size
  clear R1 b5 HB4 HX4 HQ4
  obtain ⟨kz, k0, k1, k2⟩ := id HX5.out
  go_wp2_with fail
  clear k0 k1 k2 kz
  -- the box of the program's panel
  have bx := (Below.refl w5.heap.size w5).alloc (Nat.le_refl _) (.cells #[.int .i64 W, .int .i64 H, .slice A1 N c1] 33)
  have HY6 := Lib.hid (Box.new w5 33 W H A1 N c1)
  have HX6 := Lib.hid (HX5.out.below bx HX5.out.1)
  have HB6 := Lib.hid (HB5.out.trans (bx.mono (by omega)))
  have HR6 := Lib.hid (HR5.out.below bx (Nat.le_refl _))
  have HQ6 := Lib.hid (HQ5.out.below bx (Nat.le_refl _))
  clear bx HX5 HB5 HQ5
  refine (eqPanel_same _ W H A1 A0 N c1 c0 f HR6.out.row (hR0.out.below HB6.out (Nat.le_refl _))).mono ?_
  rintro e w6 ⟨rfl, b7⟩
  have HX7 := Lib.hid (HX6.out.below b7 HX6.out.1)
  have HY7 := Lib.hid (HY6.out.below b7 HY6.out.1)
  have HB7 := Lib.hid (HB6.out.trans (b7.mono (by simp; omega)))
  have HR7 := Lib.hid (HR6.out.below b7 (Nat.le_refl _))
  have HQ7 := Lib.hid (HQ6.out.below b7 (Nat.le_refl _))
  have z6 : w5.heap.size + 1 ≤ w6.heap.size := by have := b7.size; simp at this; omega
  clear b7 HX6 HY6 HB6 HR6 HQ6
  have hzx := HX7.out.1
  obtain ⟨kz, k0, k1, k2⟩ := id HY7.out
  go_wp2_with fail
  clear k0 k1 k2 kz
  -- the lines against the argument
  refine (toTexts_any _ A n c g (HR.out.below (HB3.out.trans (HB7.out.mono z0)) (Nat.le_refl _)) hn).mono ?_
  rintro e w7 ⟨bT, rfl, OT, b8⟩
  have HT8 := Lib.hid OT.row
  have HX8 := Lib.hid (HX7.out.below b8 HX7.out.1)
  have HY8 := Lib.hid (HY7.out.below b8 HY7.out.1)
  have HB8 := Lib.hid (HB7.out.trans (b8.mono (by omega)))
  have HR8 := Lib.hid (HR7.out.below b8 (Nat.le_refl _))
  have HQ8 := Lib.hid (HQ7.out.below b8 (Nat.le_refl _))
  have z7 := b8.size
  clear b8 OT HX7 HY7 HB7 HR7 HQ7
  go_wp2_with fail
  refine (eqStrings_same _ _ _ n n n g HQ8.out.row HT8.out).mono ?_
  rintro e w8 ⟨rfl, b9⟩
  have HX9 := Lib.hid (HX8.out.below b9 HX8.out.1)
  have HY9 := Lib.hid (HY8.out.below b9 HY8.out.1)
  have HB9 := Lib.hid (HB8.out.trans (b9.mono (by omega)))
  have HR9 := Lib.hid (HR8.out.below b9 (Nat.le_refl _))
  have HQ9 := Lib.hid (HQ8.out.below b9 (Nat.le_refl _))
  have z8 := b9.size
  clear b9 HT8 HX8 HY8 HB8 HR8 HQ8
  go_wp2_with fail
  refine (markS_any _ (w3.heap.size + 1) _ n n g 1 (by simpa using HQ9.out) (by omega) (by omega) (by omega)).mono ?_
  rintro e w9 ⟨rfl, R10, b10, r, g10, hr10⟩
  have HX10 := Lib.hid (HX9.out.below b10 (by omega))
  have HB10 := Lib.hid (HB9.out.trans (b10.mono (by omega)))
  have hrw : ∀ b, r = some b → w3.heap.size + 1 ≤ b ∧ b < w4.heap.size := fun b e => by
    obtain ⟨h0, h1⟩ := hr10 b e
    have h2 : bQ = b := by simpa [blk] using h1
    have := hQb h0
    omega
  have HY10 : Hid (Box w9 w5.heap.size W H A1 N c1) := Lib.hid (HY9.out.grown' g10 (fun e => by have := hrw _ e; omega))
  have HR10 : Hid (OwnRow w9 w4.heap.size A1 N c1 f) := Lib.hid (HR9.out.grownR g10 (fun b hn hb e => by
    have h1 := hrw _ e
    obtain ⟨b', h2, h3, -⟩ := HR9.out.base_le hn
    rw [hb] at h2
    injection h2 with h2
    omega))
  have z9 := g10.size
  clear b10 R10 g10 hr10 hrw HX9 HY9 HB9 HR9 HQ9 hQb
  obtain ⟨kz, k0, k1, k2⟩ := id HY10.out
  obtain ⟨jz, j0, j1, j2⟩ := id HX10.out
  go_wp2_with fail
  clear k0 k1 k2 j0 j1 j2 kz jz
  refine (eqPanel_same _ W H A1 A0 N c1 c0 f HR10.out.row (hR0.out.below HB10.out (Nat.le_refl _))).mono ?_
  rintro e w10 ⟨rfl, b11⟩
  have HX11 := Lib.hid (HX10.out.below b11 HX10.out.1)
  have HY11 := Lib.hid (HY10.out.below b11 HY10.out.1)
  have HB11 := Lib.hid (HB10.out.trans (b11.mono (by omega)))
  have HR11 := Lib.hid (HR10.out.below b11 (Nat.le_refl _))
  have z10 := b11.size
  clear b11 HX10 HY10 HB10 HR10
  obtain ⟨kz, k0, k1, k2⟩ := id HY11.out
  go_wp2_with fail
  clear k0 k1 k2 kz
  refine (markPanel_any _ w4.heap.size W H A1 N c1 f 1 HR11.out (by omega) (by omega)).mono ?_
  rintro e w11 ⟨rfl, R5, r, g5, hr5⟩
  have HBM := Lib.hid (Marked.below g5 hr5 HR11.out (by omega))
  have HX12 := Lib.hid (HX11.out.below HBM.out (by omega))
  have hY12 : Box w11 w5.heap.size W H A1 N c1 := HY11.out.grown' g5 (fun e => by
    obtain ⟨hn, hA⟩ := hr5 _ e
    obtain ⟨b, hb, _, hlt⟩ := HR5.out.base_le hn
    rw [hA] at hb
    injection hb with hb
    omega)
  have HY12 := Lib.hid hY12
  have HB12 := Lib.hid (HB11.out.trans (HBM.out.mono (by omega)))
  have HR12 := Lib.hid R5
  have z11 := g5.size
  clear hY12 g5 hr5 R5 HX11 HY11 HB11 HR11
  obtain ⟨kz, k0, k1, k2⟩ := id HY12.out
  go_wp2_with fail
  clear k0 k1 k2 kz
  refine (heldPanel_any _ W H A1 N c1 1 HR12.out.row (by omega) (by omega)).mono ?_
  rintro e w12 ⟨rfl, b13⟩
  have HX13 := Lib.hid (HX12.out.below b13 HX12.out.1)
  have HY13 := Lib.hid (HY12.out.below b13 HY12.out.1)
  have HB13 := Lib.hid (HB12.out.trans (b13.mono (by omega)))
  have HR13 := Lib.hid (HR12.out.below b13 (Nat.le_refl _))
  have z12 := b13.size
  clear b13 HX12 HY12 HB12 HR12
  go_wp2_with fail
  refine (toTexts_any _ A n c g (HR.out.below (HB3.out.trans (HB13.out.mono z0)) (Nat.le_refl _)) hn).mono ?_
  rintro e w13 ⟨bV, rfl, OV, b14⟩
  have HV14 := Lib.hid OV.row
  have HX14 := Lib.hid (HX13.out.below b14 HX13.out.1)
  have HY14 := Lib.hid (HY13.out.below b14 HY13.out.1)
  have HB14 := Lib.hid (HB13.out.trans (b14.mono (by omega)))
  have HR14 := Lib.hid (HR13.out.below b14 (Nat.le_refl _))
  have z13 := b14.size
  clear b14 OV HX13 HY13 HB13 HR13
  go_wp2_with fail
  refine (HI.out _ _ _ HV14.out hn HG.out (HE.out.below (HB3.out.trans (HB14.out.mono z0)) (Nat.le_refl _))).mono ?_
  rintro e w14 ⟨A2, c2, rfl, R2, b15⟩
  have HX15 := Lib.hid (HX14.out.below b15 HX14.out.1)
  have HY15 := Lib.hid (HY14.out.below b15 HY14.out.1)
  have HB15 := Lib.hid (HB14.out.trans (b15.mono (by omega)))
  have HR15 := Lib.hid (HR14.out.below b15 (Nat.le_refl _))
  have HR2 := Lib.hid R2
  have z14 := b15.size
  clear b15 HX14 HY14 HB14 HR14 HV14 R2
  obtain ⟨hzy, k0, k1, k2⟩ := id HX15.out
  go_wp2_with fail
  clear k0 k1 k2
  have bx := (Below.refl w14.heap.size w14).alloc (Nat.le_refl _) (.cells #[.int .i64 W, .int .i64 H, .slice A2 N c2] 33)
  have HY16 := Lib.hid (HY15.out.below bx HY15.out.1)
  have HB16 := Lib.hid (HB15.out.trans (bx.mono (by omega)))
  have HR16 := Lib.hid (HR15.out.below bx (Nat.le_refl _))
  have HR26 := Lib.hid (HR2.out.below bx (Nat.le_refl _))
  clear bx HX15 HY15 HB15 HR15 HR2
  refine (eqPanel_same _ W H A2 A0 N c2 c0 f HR26.out.row (hR0.out.below HB16.out (Nat.le_refl _))).mono ?_
  rintro e w15 ⟨rfl, b17⟩
  have HY17 := Lib.hid (HY16.out.below b17 HY16.out.1)
  have HB17 := Lib.hid (HB16.out.trans (b17.mono (by simp; omega)))
  have HR17 := Lib.hid (HR16.out.below b17 (Nat.le_refl _))
  have z15 : w14.heap.size + 1 ≤ w15.heap.size := by have := b17.size; simp at this; omega
  clear b17 HY16 HB16 HR16 HR26
  obtain ⟨kz, k0, k1, k2⟩ := id HY17.out
  go_wp2_with fail
  clear k0 k1 k2 kz
  refine (heldPanel_any _ W H A1 N c1 1 HR17.out.row (by omega) (by omega)).mono ?_
  rintro e w16 ⟨rfl, b18⟩
  have HBF := Lib.hid (HB3.out.trans ((HB17.out.mono z0).trans (b18.mono (by omega))))
  clear b18
  go_wp2
  go_ret
  exact ⟨rfl, HBF.out⟩

theorem walk (w : World) (tt : TypeId) (pE : Int → Value) (hE : Ers tt pE w) (A0 : Option Addr) (n0 c0 : Nat) (zs0 : Nat → ByteArray) (r0 : VRow w A0 n0 c0 (fun i => .string (zs0 i))) (hz0 : ∀ i, i < n0 → (zs0 i).size ≤ maxLen) :
    Calls Tryd.prog 5 #[.slice A0 n0 c0] w fun e w' => e = .returned (.bool true) ∧ Below w.heap.size w w' := by
  by_cases hq : ∃ q y x : Int, FltIs n0 zs0 q y x
  · obtain ⟨q, y, x, hF⟩ := hq
    by_cases h0 : q = 0
    · subst h0
      have hin : inner (((zs0 0).size / 2 : Nat) : Int) ((n0 / 2 : Nat) : Int) ≤ 112 := by
        rcases hF with ⟨-, h, -⟩ | ⟨hs, -⟩
        · exact absurd h (by decide)
        · obtain ⟨p1, p2, p3, p4⟩ := szB_yes hs
          exact (inner_bd' p4 p2).2
      refine core w A0 n0 c0 zs0 r0 hz0 (((zs0 0).size / 2 : Nat) : Int) ((n0 / 2 : Nat) : Int) 0 (inner (((zs0 0).size / 2 : Nat) : Int) ((n0 / 2 : Nat) : Int)).toNat (picF (((zs0 0).size / 2 : Nat) : Int) zs0) (by omega) tt pE hE
        (Lib.hid fun w A c hr hn hg => (spec_ReadPicture w A n0 c zs0 hr hn hg).mono ?_) (Lib.hid fun w A c hr hn hg he => (impl_readPic w A n0 c zs0 hr hn hg tt pE he).mono ?_)
      all_goals
        rintro e w' ⟨q', y', x', hF', ⟨h1, -⟩ | ⟨-, N, hN, h2⟩⟩
        · exact absurd (flt_uniq hF' hF).1 h1
        · rw [← hN, Int.toNat_natCast]
          exact h2
    · refine core w A0 n0 c0 zs0 r0 hz0 0 0 8 0 (fun _ => 0) (by omega) tt pE hE
        (Lib.hid fun w A c hr hn hg => (spec_ReadPicture w A n0 c zs0 hr hn hg).mono ?_) (Lib.hid fun w A c hr hn hg he => (impl_readPic w A n0 c zs0 hr hn hg tt pE he).mono ?_)
      all_goals
        rintro e w' ⟨q', y', x', hF', ⟨h1, h2⟩ | ⟨h1, -⟩⟩
        · exact h2
        · exact absurd ((flt_uniq hF hF').1.trans h1) h0
  · refine core w A0 n0 c0 zs0 r0 hz0 0 0 8 0 (fun _ => 0) (by omega) tt pE hE
      (Lib.hid fun w A c hr hn hg => (spec_ReadPicture w A n0 c zs0 hr hn hg).mono ?_) (Lib.hid fun w A c hr hn hg he => (impl_readPic w A n0 c zs0 hr hn hg tt pE he).mono ?_)
    all_goals
      rintro e w' ⟨q', y', x', hF', -⟩
      exact absurd ⟨q', y', x', hF'⟩ hq

set_option maxRecDepth 100000 in
theorem contract (H : Type) (enc : TypeId × Value → H) (W : World) (base : Nat) (args : Array Value) (ds gs : List (DataW H)) (before : List MemPlace)
    (hval0 : ∀ (j : Nat) t v, Tryd.f5.params[j]? = some t → args[j]? = some v → Value.okWide Tryd.prog W .any base t v)
    (hW : DataW.Whole enc Tryd.prog Tryd.f5.params.toList Rows.fnExactReadPictureSpec.vars false W args.toList ds gs before) (hL : laidMetH Tryd.prog Rows.fnExactReadPictureRow.laid W) :
    Calls Tryd.prog 5 args W fun e W' => ∃ v, e = .returned v ∧ Rows.fnExactReadPictureSpec.post enc Tryd.prog Tryd.f5 false true false false W args v W' := by
  have hval : ∀ (j : Nat) t v, Tryd.f5.params[j]? = some t → args[j]? = some v → Value.okWide Tryd.prog W .any base t v := hval0
  have hW' := hW
  obtain ⟨p, q, hA0, hV, rfl, hfz, hnd⟩ := hW
  have hA : DataW.TrodAll enc Tryd.prog W 0 (fun _ => true) true Tryd.f5.params.toList args.toList ds p := hA0
  rw [Tryd.params5] at hA hval
  obtain ⟨v0, vs0, d0, ds0, p0, q0, hargs, rfl, rfl, h0, tl0⟩ := trodAll_cons hA
  obtain ⟨rfl, rfl, rfl⟩ := trodAll_nil tl0
  obtain rfl : args = #[v0] := by cases args; simp_all
  have k0 := h0
  have lt0 : ∀ x ∈ p0, x.block < W.heap.size := by obtain ⟨m, hm⟩ := k0; exact DataW.trod_lt m _ _ _ hm
  obtain ⟨A0, n0, c0, rfl⟩ := okWide_slice Tryd.underlying24 (hval 0 24 v0 rfl rfl)
  obtain ⟨zs0, r0, hz0⟩ : ∃ zs : Nat → ByteArray, VRow W A0 n0 c0 (fun i => .string (zs i)) ∧ ∀ i, i < n0 → (zs i).size ≤ maxLen := by
    obtain ⟨fuel, hf⟩ := h0
    obtain ⟨A', n', c', zs, e2, r⟩ := vrow_of Tryd.underlying24 Tryd.underlying9 (by kernel_rfl) hf (fun x hx => lt0 x hx)
    simp [Value.cells] at e2
    obtain ⟨rfl, rfl, rfl⟩ := e2
    exact ⟨zs, r⟩
  clear hA0 hval0
  refine (walk W _ _ (ers hL).choose_spec A0 n0 c0 zs0 r0 hz0).mono fun e W' ⟨he, bel⟩ => ?_
  subst he
  match gs, hV with
  | [g1, g2, g3, g4, g5], hV =>
    exact ⟨_, rfl, _, _, _, [], _, q, hW', trodAll_mk1 (shut_bool Tryd.underlying4 _), (trodAll_cons_mk (Below.trod laidOut (by kernel_rfl) (of_decide_eq_true (by kernel_rfl)) k0 bel lt0) trodAll_mk0), Below.trodVars laidOut bel (by kernel_rfl) hV, bel.frame _, fun h => by cases h⟩

noncomputable def low : Nat := (World.holding Tryd.prog default ⟨#[], #[], []⟩).heap.size
/-- A WORLD FOR THE WITNESS: the settled one, each listed variable holding what its initialiser lays. -/
noncomputable def laidWorld (os : Os) : World :=
  let w0 := World.holding Tryd.prog os ⟨#[.cells #[.string ⟨#[110, 111, 32, 115, 105, 122, 101, 32, 111, 102, 32, 97, 32, 112, 97, 110, 101, 108]⟩] 209, .cells #[.string ⟨#[110, 111, 116, 32, 97, 115, 32, 108, 111, 110, 103, 32, 97, 115, 32, 116, 104, 101, 32, 102, 105, 114, 115, 116, 32, 108, 105, 110, 101]⟩] 209, .cells #[.string ⟨#[110, 111, 32, 99, 104, 97, 114, 97, 99, 116, 101, 114, 32, 111, 102, 32, 97, 32, 98, 114, 101, 97, 107]⟩] 209, .cells #[.string ⟨#[110, 111, 32, 99, 104, 97, 114, 97, 99, 116, 101, 114, 32, 111, 102, 32, 97, 32, 98, 111, 114, 100, 101, 114, 32, 112, 111, 105, 110, 116]⟩] 209, .cells #[.string ⟨#[110, 111, 116, 32, 98, 108, 97, 110, 107]⟩] 209], #[], []⟩
  { w0 with heap := (((((w0.heap.modify 1 fun
      | .cells _ t frozen => .cells #[.iface 185 (.pointer (some ⟨low + 0, 0, none⟩))] t frozen
      | o => o).modify 3 fun
      | .cells _ t frozen => .cells #[.iface 185 (.pointer (some ⟨low + 1, 0, none⟩))] t frozen
      | o => o).modify 4 fun
      | .cells _ t frozen => .cells #[.iface 185 (.pointer (some ⟨low + 2, 0, none⟩))] t frozen
      | o => o).modify 5 fun
      | .cells _ t frozen => .cells #[.iface 185 (.pointer (some ⟨low + 3, 0, none⟩))] t frozen
      | o => o).modify 6 fun
      | .cells _ t frozen => .cells #[.iface 185 (.pointer (some ⟨low + 4, 0, none⟩))] t frozen
      | o => o) }
set_option maxRecDepth 100000 in
theorem laid_met (os : Os) : laidMet Tryd.prog Rows.fnExactReadPictureRow.laid ((laidWorld os).forCall (fun _ _ => 0) ⟨#[], #[.slice none 0 0], []⟩).memory :=
  laidMet_of_run' 8 (by kernel_rfl) (by kernel_rfl)
theorem reads (os : Os) {H : Type} (enc : TypeId × Value → H) : ∃ gs places, DataW.whole enc Tryd.prog ((laidWorld os).forCall (fun _ _ => 0) ⟨#[], #[.slice none 0 0], []⟩).memory Tryd.f5.params.toList Rows.fnExactReadPictureSpec.vars false (#[.slice none 0 0] : Array Value).toList 8 = some ([.nil], gs, places) :=
  ⟨((DataW.whole enc Tryd.prog ((laidWorld os).forCall (fun _ _ => 0) ⟨#[], #[.slice none 0 0], []⟩).memory Tryd.f5.params.toList Rows.fnExactReadPictureSpec.vars false (#[.slice none 0 0] : Array Value).toList 8).getD ([], [], [])).2.1, ((DataW.whole enc Tryd.prog ((laidWorld os).forCall (fun _ _ => 0) ⟨#[], #[.slice none 0 0], []⟩).memory Tryd.f5.params.toList Rows.fnExactReadPictureSpec.vars false (#[.slice none 0 0] : Array Value).toList 8).getD ([], [], [])).2.2, by kernel_rfl⟩

set_option maxRecDepth 100000 in
theorem lifted (os : Os) (started : os.Started) (H : Type) (enc : TypeId × Value → H) (F : Stop.Interp) :
    ReturnsInHanded {} Tryd.checked os 5 .any ((OpenSpec.ofChange Rows.fnExactReadPictureSpec).preRow enc Tryd.prog Tryd.f5 Rows.fnExactReadPictureRow.domain false Rows.fnExactReadPictureRow.laid) (((OpenSpec.ofChange Rows.fnExactReadPictureSpec).at F).post enc Tryd.prog Tryd.f5 false true false false) := by
  obtain ⟨gs, places, hx⟩ := reads os enc
  refine returnsInHanded_of_row (C := Tryd.checked) (s := OpenSpec.ofChange Rows.fnExactReadPictureSpec) own started (by kernel_rfl) Tryd.func5
    (witness_row_at (enc := enc) (C := Tryd.checked) false (laidWorld os) #[.slice none 0 0] rfl (by kernel_rfl) (by kernel_rfl) (by kernel_rfl)
      (OpenSpec.preRow_of_cond 8 hx (by kernel_rfl) (fun k hk => by cases hk) (by kernel_rfl) (laid_met os))) ?_
  intro W base args ds gs before hval hW _ _ _ hL _ _
  exact contract H enc W base args ds gs before hval hW hL

theorem said : Rows.FnExactReadPictureSaid :=
  OpenClaim.holds_of_cond 5 Tryd.f5 rfl rfl rfl rfl rfl rfl rfl ⟨rfl, rfl, rfl, rfl, rfl⟩ rfl rfl rfl rfl rfl (by kernel_rfl) Tryd.func5 (by kernel_rfl)
    (of_decide_eq_true (by kernel_rfl)) (by unfold Func.isWrapper; first | (rw [if_pos (by decide +kernel)]; kernel_rfl) | (rw [if_neg (by decide +kernel)]; exact ⟨rfl, rfl⟩))
    (fun os started H enc _ F => by rw [OpenClaim.pre_eq_preRow]; exact lifted os started H enc F)

theorem plain (f : FuncId) (fn : Func) (hf : Tryd.pinned.checked.prog.funcNamed "loop.example/g00931/laws.FnExactReadPicture" = some f) (hfn : Tryd.pinned.checked.prog.funcs[f]? = some fn) :
    true = Tryd.pinned.checked.prog.looks [] ∧ ∀ (j : Nat) t, fn.params[j]? = some t → Tryd.pinned.checked.prog.wantsStandIn t = false := by
  obtain rfl : f = 5 := Option.some.inj ((show Tryd.prog.funcNamed "loop.example/g00931/laws.FnExactReadPicture" = some 5 by kernel_rfl).symm.trans hf) |>.symm
  obtain rfl : fn = Tryd.f5 := (Option.some.inj (Tryd.func5.symm.trans hfn)).symm
  refine ⟨by kernel_rfl, fun j t ht => ?_⟩
  rw [Tryd.params5] at ht
  match j, ht with
  | 0, ht =>
    have e : t = 24 := by simpa using ht.symm
    subst e
    exact (show Tryd.prog.wantsStandIn 24 = false by kernel_rfl)
  | j + 1, ht => simp at ht

theorem card : Rows.FnExactReadPictureCardSaid :=
  Claim7.holds_tied_plain_at .later [] _ _ _ _ said (fun _ h => by cases h) (by kernel_rfl) (fun _ h => by cases h) fnExactReadPicture_row_tie rfl ⟨rfl, rfl⟩ (by kernel_rfl) rfl plain (by kernel_rfl)
#print axioms card
end Go.Proofs.YtdofeonkgaceeacDoor.fnExactReadPicture
