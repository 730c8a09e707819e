/-
  ReadPanel: the program's.
-/
import Derived.Test.YtocnocchliihhaaDoorNbf
import Derived.Test.YtocnocchliihhaaDoorRps
import Derived.Test.YtocnocchliihhaaDoorPtx
import Derived.Test.YtocnocchliihhaaDoorPnt
import Derived.Test.YtocnocchliihhaaDoorSet
namespace Go.Proofs.YtocnocchliihhaaDoor.Base
open Go Go.RowKit
open Go.PlainAid (bt get_bt bt_nonneg bt_le)
set_option linter.unusedVariables false
set_option linter.unusedSimpArgs false

/-- the specification's answers -/
theorem spec_readPanel_yes (w : World) (s : ByteArray) (hs : s.size ≤ 1048576) (a b : Int) (k j : Nat) (h : RP s a b k j) :
    Calls Tryd.prog 38 #[.string s] w (PanelOutB a b (s.size - j - 1) (rpF s j) true w) := by
  have hraw : Calls Tryd.prog 75 #[.string s] (w.alloc (.cells #[.int .i64 0, .int .i64 0, .slice none 0 0] 26)) (PanelOutB a b (s.size - j - 1) (rpF s j) true (w.alloc (.cells #[.int .i64 0, .int .i64 0, .slice none 0 0] 26))) := by
    rcases fm_cases s with ⟨k', j', hf, e1, e2⟩ | ⟨h1, -⟩
    · obtain ⟨rfl, rfl⟩ := h.fm.uniq hf
      refine (spec_l05Read_fm _ s k j hs hf e1 e2).mono ?_
      rintro e w' ⟨a', b', o1, o2, r1, r2, h3⟩
      obtain ⟨rfl, rfl⟩ := rd_same r1 (.inl ⟨rfl, h.na⟩)
      obtain ⟨rfl, rfl⟩ := rd_same r2 (.inl ⟨rfl, h.nb⟩)
      exact h3
    · exact absurd h.fm (h1 k j)
  have HRAW := Lib.hid hraw
  have HOK := Lib.hid h.ok
  clear hraw h
  generalize s.size - j - 1 = n at *
  generalize rpF s j = f at *
  go_enter Tryd.func38, Tryd.ntmps38
  go_wp2_with fail
  refine HRAW.out.mono ?_
  rintro e w1 ⟨A, c, rfl, hr, b1⟩
  have HR1 := Lib.hid hr
  have HB1 := Lib.hid b1
  have hz1 := b1.size
  simp only [World.size_alloc] at hz1
  clear hr b1 HRAW
  have bN := (Below.refl w1.heap.size w1).alloc (Nat.le_refl _) (.cells #[.int .i64 a, .int .i64 b, .slice A n c] 26)
  have HX2 := Lib.hid (Box.new w1 26 a b A n c)
  have HR2 := Lib.hid (HR1.out.below bN (Nat.le_refl _))
  have HB2 := Lib.hid (HB1.out.trans (bN.mono (by simp only [World.size_alloc]; omega)))
  have hz2 : w1.heap.size + 1 = (w1.alloc (.cells #[.int .i64 a, .int .i64 b, .slice A n c] 26)).heap.size := by simp
  clear bN HR1 HB1
  go_wp2_with fail
  refine (specOk_is HOK.out HX2.out HR2.out.row).mono ?_
  rintro e w2 ⟨m, rfl, rfl⟩
  generalize w1.alloc (.cells #[.int .i64 a, .int .i64 b, .slice A n c] 26) = w2 at *
  have bD := below_drewN (Below.refl w2.heap.size w2) m
  have HX3 := Lib.hid (HX2.out.below bD HX2.out.1)
  have HR3 := Lib.hid (HR2.out.below bD (Nat.le_refl _))
  have HB3 := Lib.hid (HB2.out.trans (bD.mono (by simp only [World.size_alloc]; omega)))
  have hz3 := bD.size
  clear bD HX2 HR2 HB2
  generalize w2.drewN m = w3 at *
  obtain ⟨-, k0, k1, k2⟩ := id HX3.out
  obtain ⟨q0, q1, q2, f0, f1, f2, hB, hz⟩ := out_cells HB3.out
  go_wp2
  refine bodyPost_ret ?_ rfl ⟨A, c, rfl, (ownRow_setBox HR3.out (by simp) _ _ _).mono (by simp), ((hB.setCell (by simp) _).setCell (by simp) _).setCell (by simp) _⟩
  simp [results, Tryd.results38, go_sem, q0, q1, q2]
set_option maxHeartbeats 1000000 in
theorem spec_readPanel_no (w : World) (s : ByteArray) (hs : s.size ≤ 1048576) (h : ∀ a b k j, ¬ RP s a b k j) :
    Calls Tryd.prog 38 #[.string s] w (PanelOutB 0 0 0 (fun _ => 0) false w) := by
  have hraw : Calls Tryd.prog 75 #[.string s] (w.alloc (.cells #[.int .i64 0, .int .i64 0, .slice none 0 0] 26)) (fun e w' => ∃ a b n f o, PanelOutB a b n f o (w.alloc (.cells #[.int .i64 0, .int .i64 0, .slice none 0 0] 26)) e w' ∧ (o = true → validB a b n f = false)) := by
    rcases fm_cases s with ⟨k, j, hf, e1, e2⟩ | ⟨h1, h2⟩
    · refine (spec_l05Read_fm _ s k j hs hf e1 e2).mono ?_
      rintro e w' ⟨a', b', o1, o2, r1, r2, h3⟩
      refine ⟨_, _, _, _, _, h3, fun ho => ?_⟩
      have h4 : o1 = true ∧ o2 = true := by simpa using ho
      obtain ⟨rfl, rfl⟩ := h4
      cases hv : validB a' b' (s.size - j - 1) (rpF s j)
      · rfl
      · have n1 : RDok (s.extract 0 k) a' := by
          rcases r1 with ⟨-, h⟩ | ⟨h, -⟩
          · exact h
          · cases h
        have n2 : RDok (s.extract (k + 1) j) b' := by
          rcases r2 with ⟨-, h⟩ | ⟨h, -⟩
          · exact h
          · cases h
        exact absurd ⟨hf.kj, hf.js, hf.xk, hf.x1, hf.x2, hf.cj, hf.c1, hf.c2, n1, n2, hv⟩ (h a' b' k j)
    · refine (spec_l05Read_no _ s hs h2).mono ?_
      intro e w' h3
      exact ⟨_, _, _, _, _, h3, fun ho => by cases ho⟩
  have HRAW := Lib.hid hraw
  clear hraw h
  go_enter Tryd.func38, Tryd.ntmps38
  go_wp2_with fail
  refine HRAW.out.mono ?_
  rintro e w1 ⟨a, b, n, f, o, ⟨A, c, rfl, hr, b1⟩, ho⟩
  have HR1 := Lib.hid hr
  have HB1 := Lib.hid b1
  have hz1 := b1.size
  simp only [World.size_alloc] at hz1
  clear hr b1 HRAW
  have bN := (Below.refl w1.heap.size w1).alloc (Nat.le_refl _) (.cells #[.int .i64 a, .int .i64 b, .slice A n c] 26)
  have HX2 := Lib.hid (Box.new w1 26 a b A n c)
  have HR2 := Lib.hid (HR1.out.below bN (Nat.le_refl _))
  have HB2 := Lib.hid (HB1.out.trans (bN.mono (by simp only [World.size_alloc]; omega)))
  have hz2 : w1.heap.size + 1 = (w1.alloc (.cells #[.int .i64 a, .int .i64 b, .slice A n c] 26)).heap.size := by simp
  clear bN HR1 HB1
  cases o
  · clear ho
    obtain ⟨q0, q1, q2, f0, f1, f2, hB, hz⟩ := out_cells HB2.out
    go_wp2
    refine bodyPost_ret ?_ rfl ⟨none, 0, rfl, ownRow_nil _ _ _, ((hB.setCell (by simp) _).setCell (by simp) _).setCell (by simp) _⟩
    simp [results, Tryd.results38, go_sem, q0, q1, q2]
  · have HOK := Lib.hid (ho rfl)
    clear ho
    go_wp2_with fail
    refine (specOk_is HOK.out HX2.out HR2.out.row).mono ?_
    rintro e w2 ⟨m, rfl, rfl⟩
    obtain ⟨q0, q1, q2, f0, f1, f2, hB, hz⟩ := out_cells (below_drewN HB2.out m)
    go_wp2
    refine bodyPost_ret ?_ rfl ⟨none, 0, rfl, ownRow_nil _ _ _, ((hB.setCell (by simp) _).setCell (by simp) _).setCell (by simp) _⟩
    simp [results, Tryd.results38, go_sem, q0, q1, q2]
/-- the text's bytes in a new row -/
theorem bytes_run2 {P : Program} (s : ByteArray) (hs : P.underlying 9 = some .string) (hd : P.underlying 22 = some (.slice 5)) (he : P.underlying 5 = some (.int .u8)) (hz : s.size ≤ 1048576) :
    ∃ (cp : World → Nat) (mk : World → World), (∀ wx, (convert 9 22 (.string s)).run P wx = .ok (.slice (some ⟨wx.heap.size, 0, none⟩) s.size (cp wx)) (mk wx)) ∧
      ∀ wx, Below wx.heap.size wx (mk wx) ∧ BSl (mk wx) wx.heap.size 0 s.size s 0 ∧ s.size ≤ cp wx ∧ cp wx ≤ maxLen := by
  refine ⟨fun wx => grownCap wx s.size 0 5, fun wx => wx.drew.alloc (.cells (bytesRow s (grownCap wx s.size 0 5)) 5 ((bytesRow s (grownCap wx s.size 0 5)).size, (bytesRow s (grownCap wx s.size 0 5)).size + 1)), fun wx => run_bytes_of_string wx _ _ _ s hs hd he, fun wx => ⟨((Below.refl _ _).drew).alloc (Nat.le_refl _) _, ?_, grownCap_ge wx s.size 0 _, grownCap_le_maxLen wx s.size 0 _ (by unfold maxLen; omega)⟩⟩
  have hg := heap_alloc_new wx.drew (.cells (bytesRow s (grownCap wx s.size 0 5)) 5 ((bytesRow s (grownCap wx s.size 0 5)).size, (bytesRow s (grownCap wx s.size 0 5)).size + 1))
  refine ⟨by rw [World.size_alloc]; exact Nat.lt_succ_self _, Nat.zero_add _, fun i hi => ?_⟩
  have e := Lib.cell_of_heap hg (0 + i)
  rw [Nat.zero_add] at e
  rw [Nat.zero_add]
  refine e.trans ?_
  rw [bytesRow_at s _ i hi, ← get_bt s i hi]
  rfl
theorem RP.at_k {s : ByteArray} {a b : Int} {k' j' k : Nat} (h : RP s a b k' j') (h1 : ∀ i, i < k → bt s i ≠ 120) (h2 : bt s k = 120) : k' = k := by
  rcases Nat.lt_trichotomy k' k with e | e | e
  · exact absurd h.xk (h1 k' e)
  · exact e
  · exact absurd h2 (h.x1 k e)
theorem RP.at_j {s : ByteArray} {a b : Int} {k' j' j : Nat} (h : RP s a b k' j') (h1 : ∀ i, k' < i → i < j → bt s i ≠ 58) (h2 : bt s j = 58) : j' = j := by
  rcases Nat.lt_trichotomy j' j with e | e | e
  · exact absurd h.cj (h1 j' h.kj e)
  · exact e
  · exact absurd h2 (h.c1 j e)
theorem OwnRow.congr {w : World} {base : Nat} {A : Option Addr} {n c : Nat} {f g : Nat → Int} (h : OwnRow w base A n c f) (e : ∀ t, t < n → f t = g t) : OwnRow w base A n c g :=
  ⟨h.1, h.2.1, fun i hi => by rw [← e i hi]; exact h.2.2.1 i hi, fun hn => by
    obtain ⟨b, o, h1, h2, h3, h4⟩ := h.2.2.2 hn
    exact ⟨b, o, h1, h2, h3, fun i hi => by rw [← e i hi]; exact h4 i hi⟩⟩
/-- what impl's reader leaves -/
def ReadPost (s : ByteArray) (w : World) (e : Ending) (w' : World) : Prop :=
  ∃ W H n f ok, PanelOutB W H n f ok w e w' ∧ ((ok = true ∧ ∃ k j, RP s W H k j ∧ n = s.size - j - 1 ∧ f = rpF s j) ∨ (ok = false ∧ W = 0 ∧ H = 0 ∧ n = 0 ∧ ∀ a b k j, ¬ RP s a b k j))
theorem side_0 : sideB 0 = false := by decide
set_option maxHeartbeats 4000000 in
set_option maxRecDepth 100000 in
theorem impl_readPanel (w : World) (s : ByteArray) (hs : s.size ≤ 1048576) (tS : TypeId) (pS : Value) (tR : TypeId) (pR : Value) (hL : Lv w tS pS tR pR) :
    Calls Tryd.prog 39 #[.string s] w (ReadPost s w) := by
  obtain ⟨cp, mk, hcvt, hmk⟩ := bytes_run2 (P := Tryd.prog) s Tryd.underlying9 Tryd.underlying22 Tryd.underlying5 hs
  obtain ⟨b0, hbs, hc1, hc2⟩ := hmk (w.alloc (.cells #[.int .i64 0, .int .i64 0, .slice none 0 0] 26))
  rw [World.size_alloc] at hbs
  have HL0 := Lib.hid ((hL.below ((Below.refl _ w).alloc (Nat.le_refl _) (.cells #[.int .i64 0, .int .i64 0, .slice none 0 0] 26))).below b0)
  have HB1 := Lib.hid b0
  have HS1 := Lib.hid hbs
  have hz1 := b0.size
  simp only [World.size_alloc] at hz1
  clear hmk b0 hbs hL
  obtain ⟨w1, hw1⟩ : ∃ w1, mk (w.alloc (.cells #[.int .i64 0, .int .i64 0, .slice none 0 0] 26)) = w1 := ⟨_, rfl⟩
  obtain ⟨c1, hcc⟩ : ∃ c, cp (w.alloc (.cells #[.int .i64 0, .int .i64 0, .slice none 0 0] 26)) = c := ⟨_, rfl⟩
  rw [hw1] at HL0 HB1 HS1 hz1
  rw [hcc] at hc1 hc2
  have hcv0 := hcvt (w.alloc (.cells #[.int .i64 0, .int .i64 0, .slice none 0 0] 26))
  rw [hw1, hcc, World.size_alloc] at hcv0
  clear hcvt hw1 hcc
  by_cases hx : ∃ k, k < s.size ∧ bt s k = 120
  · obtain ⟨k, hk, hk2, hk1⟩ := min_ex hx
    clear hx
    have hks := hk
    have HN1 := Lib.hid (nb_hit w1 (w.heap.size + 1) 0 s.size c1 s 0 k 120 (by decide) (by decide) hs hc1 hc2 HS1.out hk (fun i hi => by rw [Nat.zero_add]; exact hk1 i hi) (by rw [Nat.zero_add]; exact hk2) tS pS tR pR HL0.out)
    have HK1 := Lib.hid hk1
    have HK2 := Lib.hid hk2
    clear hk1 hk2
    go_enter Tryd.func39, Tryd.ntmps39
    go_wp2_with fail
    refine HN1.out.mono ?_
    rintro e w2 ⟨v1, o1, A1, c2, rfl, hr1, ⟨q, rfl, hq⟩, hc3, hc4, b2⟩
    have HR1 := Lib.hid hr1
    have HL2 := Lib.hid (HL0.out.below b2)
    have HB2 := Lib.hid (HB1.out.trans (b2.mono (by simp only [World.size_alloc]; omega)))
    have HS2 := Lib.hid (HS1.out.below b2 HS1.out.1)
    have hz2 := b2.size
    clear hr1 b2 HN1 HL0 HB1 HS1 hcv0
    obtain ⟨n1, hn1⟩ : ∃ n, s.size - (k + 1) = n := ⟨_, rfl⟩
    rw [hn1] at hc3 hq ⊢
    have HT2 : Hid (BSl w2 (w.heap.size + 1) q n1 s (k + 1)) := Lib.hid (by
      by_cases h0 : 0 < n1
      · rw [hq h0, ← hn1]
        have := HS2.out.tail (k := k) (by omega)
        simpa using this
      · exact ⟨HS2.out.1, by omega, fun i hi => absurd hi (by omega)⟩)
    clear HS2
    by_cases hy : ∃ m, m < n1 ∧ bt s (k + 1 + m) = 58
    · obtain ⟨m, hm, hm2, hm1⟩ := min_ex hy
      clear hy
      have HN2 := Lib.hid (nb_hit w2 (w.heap.size + 1) q n1 c2 s (k + 1) m 58 (by decide) (by decide) hs hc3 hc4 HT2.out hm hm1 hm2 tS pS tR pR HL2.out)
      have HM1 := Lib.hid hm1
      have HM2 := Lib.hid hm2
      clear hm1 hm2
      go_wp2_with fail
      refine HN2.out.mono ?_
      rintro e w3 ⟨v2, o2, A2, c3, rfl, hr2, ⟨q2, rfl, hq2⟩, hc5, hc6, b3⟩
      have HR2 := Lib.hid hr2
      have HB3 := Lib.hid (HB2.out.trans (b3.mono (by simp only [World.size_alloc]; omega)))
      have HT3 := Lib.hid (HT2.out.below b3 HT2.out.1)
      have hz3 := b3.size
      clear hr2 b3 HN2 HL2 HB2 HT2
      obtain ⟨n2, hn2⟩ : ∃ n, n1 - (m + 1) = n := ⟨_, rfl⟩
      rw [hn2] at hc5 hq2 ⊢
      have HT4 : Hid (BSl w3 (w.heap.size + 1) q2 n2 s (k + 1 + m + 1)) := Lib.hid (by
        by_cases h0 : 0 < n2
        · rw [hq2 h0, ← hn2]
          have := HT3.out.tail (k := m) (by omega)
          simpa [Nat.add_assoc] using this
        · exact ⟨HT3.out.1, by omega, fun i hi => absurd hi (by omega)⟩)
      clear HT3
      obtain ⟨j, hj⟩ : ∃ j, k + 1 + m = j := ⟨_, rfl⟩
      rw [hj] at HT4
      have HJ1 : Hid (∀ i, k < i → i < j → bt s i ≠ 58) := Lib.hid (fun i h1 h2 => by
        have := HM1.out (i - (k + 1)) (by omega)
        rw [show k + 1 + (i - (k + 1)) = i by omega] at this
        exact this)
      have HJ2 : Hid (bt s j = 58) := Lib.hid (by rw [← hj]; exact HM2.out)
      have HR1' : Hid (RDans (s.extract 0 k) v1 o1) := Lib.hid (by have := HR1.out; rwa [Nat.zero_add] at this)
      have HR2' : Hid (RDans (s.extract (k + 1) j) v2 o2) := Lib.hid (by have := HR2.out; rwa [hj] at this)
      have hkj : k < j := by omega
      have hjs : j < s.size := by omega
      have hn2j : n2 = s.size - j - 1 := by omega
      have HN2J := Lib.hid hn2j
      have HEQ : Hid (∀ a b k' j', RP s a b k' j' → a = v1 ∧ b = v2 ∧ j' = j ∧ k' = k) := Lib.hid (fun a b k' j' h => by
        have ek := h.at_k HK1.out HK2.out
        subst ek
        have ej := h.at_j HJ1.out HJ2.out
        subst ej
        exact ⟨(rd_same (.inl ⟨rfl, h.na⟩) HR1'.out).1, (rd_same (.inl ⟨rfl, h.nb⟩) HR2'.out).1, rfl, rfl⟩)
      clear HR1 HR2 HM1 HM2 hj hn1 hn2 hm hq hq2 hn2j
      have hq0 := HB3.out.size
      simp only [World.size_alloc] at hq0
      by_cases hsd : sideB v1 = true ∧ sideB v2 = true
      · obtain ⟨hW, hH⟩ := hsd
        obtain ⟨i1, i2⟩ := inner_bd' hW hH
        obtain ⟨n, hn⟩ : ∃ n : Nat, (n : Int) = inner v1 v2 := ⟨(inner v1 v2).toNat, by omega⟩
        have hn112 : n ≤ 112 := by omega
        have HNn := Lib.hid hn
        have HWs := Lib.hid hW
        have HHs := Lib.hid hH
        have HNP := Lib.hid (implNewPanel_ok w3 v1 v2 n hW hH hn)
        clear hn hW hH i1 i2
        go_wp2_with fail
        refine HNP.out.mono ?_
        rintro e w4 ⟨A4, c4, rfl, hO4, b4⟩
        have HQA : Hid (0 < n → ∀ b, blk A4 = some b → w3.heap.size ≤ b ∧ b < w4.heap.size) := Lib.hid (fun h0 b hb => by
          obtain ⟨b', o', e1, e2, e3, -⟩ := hO4.2.2.2 h0
          rw [e1] at hb
          simp [blk] at hb
          omega)
        have hnc4 := hO4.1
        have hcm4 := hO4.2.1
        unfold maxLen at hcm4
        have bN := (Below.refl w4.heap.size w4).alloc (Nat.le_refl _) (.cells #[.int .i64 v1, .int .i64 v2, .slice A4 n c4] 26)
        have HP5 := Lib.hid (At.new w4 #[.int .i64 v1, .int .i64 v2, .slice A4 n c4] 26)
        have HO5 := Lib.hid (hO4.below bN (Nat.le_refl _))
        have hz4 := b4.size
        have HB5 := Lib.hid (b4.trans (bN.mono hz4))
        have HT5 := Lib.hid (HT4.out.below HB5.out HT4.out.1)
        have hz5 : w4.heap.size + 1 = (w4.alloc (.cells #[.int .i64 v1, .int .i64 v2, .slice A4 n c4] 26)).heap.size := by simp
        have hg3 := HT4.out.1
        clear bN b4 hO4 HNP HT4
        have d2 := HP5.out.cellv (i := 2) rfl
        by_cases hlen : n2 = n
        · subst hlen
          have HO6 : Hid (∃ f, OwnRow (w4.alloc (.cells #[.int .i64 v1, .int .i64 v2, .slice A4 n2 c4] 26)) w3.heap.size A4 n2 c4 f ∧ ∀ t, t < 0 → f t = rpF s j t ∧ 0 ≤ rpF s j t) := Lib.hid ⟨_, HO5.out, fun t ht => absurd ht (Nat.not_lt_zero _)⟩
          clear HO5
          go_wp2
          clear d2
          generalize w4.alloc (.cells #[.int .i64 v1, .int .i64 v2, .slice A4 n2 c4] 26) = w5 at *
          generalize w4.heap.size = P at *
          go_loopw [44] (fun kv wr => ∃ i : Nat, i ≤ n2 ∧ kv = .int .i64 i ∧ Hid (∃ f, OwnRow wr w3.heap.size A4 n2 c4 f ∧ ∀ t, t < i → f t = rpF s j t ∧ 0 ≤ rpF s j t) ∧ Hid (At wr P #[.int .i64 v1, .int .i64 v2, .slice A4 n2 c4] 26) ∧ Hid (BSl wr (w.heap.size + 1) q2 n2 s (j + 1)) ∧ Hid (Below w3.heap.size w3 wr)) (fun kv _ => n2 - (intOf kv).toNat)
          case atStart => exact ⟨0, Nat.zero_le _, rfl, HO6, HP5, HT5, HB5⟩
          case round =>
            clear HO6 HP5 HT5 HB5
            obtain ⟨i, hi, rfl, HO, HP, HT, HB⟩ := hrel
            have hB := HB.out.size
            have HBw := Lib.hid (HB3.out.trans (HB.out.mono (by simp only [World.size_alloc]; omega)))
            by_cases hlt : i < n2
            · have s3 := HT.out.2.2 i hlt
              have hgl := HT.out.1
              obtain ⟨cv, hcv⟩ : ∃ cv, bt s (j + 1 + i) = cv := ⟨_, rfl⟩
              rw [hcv] at s3
              have hc0 : 0 ≤ cv := by rw [← hcv]; exact bt_nonneg _ _
              have hc255 : cv ≤ 255 := by rw [← hcv]; exact bt_le _ _
              have HCV : Hid (rpF s j i = kindI cv) := Lib.hid (by unfold rpF; rw [hcv])
              clear hcv
              go_wp2_with fail
              refine (break_is wr cv hc0 hc255).mono ?_
              by_cases hk0 : 0 ≤ kindI cv
              · have e1 : kindO cv = true := decide_eq_true hk0
                have e2 : kindN cv = kindI cv := by unfold kindN; rw [if_neg (by omega)]
                rw [e1, e2]
                clear e1 e2
                rintro e w6 ⟨rfl, b6⟩
                obtain ⟨f, ho, hf⟩ := HO.out
                obtain ⟨rb, ro, rfl, hrb0, hrb1, hrb2⟩ := ho.2.2.2 (by omega)
                have hq' := HQA.out (by omega) rb rfl
                obtain ⟨hci, hfi⟩ := hrb2 i hlt
                have hci6 := cell_be hci b6 hrb1
                have hfi6 : w6.frozen? ⟨rb, ro + i, none⟩ = false := (b6.frozen (p := ⟨rb, ro + i, none⟩) hrb1).trans hfi
                have HO6 := Lib.hid (ho.below b6 (Nat.le_refl _))
                have HFf := Lib.hid hf
                have HP6 := Lib.hid (HP.out.below b6 HP.out.lt)
                have HT6 := Lib.hid (HT.out.below b6 hgl)
                have HB6 := Lib.hid (HB.out.trans (b6.mono hB))
                have d2 := HP6.out.cellv (i := 2) rfl
                have hz6 := b6.size
                have hPl := HP6.out.lt
                have hrb6 : rb < w6.heap.size := by omega
                have wfk := kindI_wf cv
                clear b6 hci hfi hrb2 ho hf HP HT s3
                go_wp2
                go_roundw
                case rel =>
                  refine ⟨i + 1, by omega, by go_num, Lib.hid ⟨_, OwnRow.put HO6.out hlt (kindI cv) wfk, fun t ht => ?_⟩, Lib.hid (HP6.out.setOther (by show rb ≠ P; omega) _), Lib.hid ?_, Lib.hid (HB6.out.setCell (by show w3.heap.size ≤ rb; omega) _)⟩
                  · unfold putF
                    by_cases e : t = i
                    · subst e
                      rw [if_pos rfl, HCV.out]
                      exact ⟨rfl, hk0⟩
                    · rw [if_neg e]
                      exact HFf.out t (by omega)
                  · refine ⟨by simpa [World.setCell] using HT6.out.1, HT6.out.2.1, fun t ht => ?_⟩
                    rw [World.cell?_setCell_other _ _ _ _ (fun h => by injection h; omega)]
                    exact HT6.out.2.2 t ht
                case measure => simp [intOf]; omega
              · have e1 : kindO cv = false := decide_eq_false hk0
                have e2 : kindN cv = 0 := by unfold kindN; rw [if_pos (by omega)]
                rw [e1, e2]
                clear e1 e2
                rintro e w6 ⟨rfl, b6⟩
                have HNO : Hid (∀ a b k' j', ¬ RP s a b k' j') := Lib.hid (fun a b k' j' h => by
                  obtain ⟨e1, e2, e3, e4⟩ := HEQ.out a b k' j' h
                  subst e1 e2 e3 e4
                  obtain ⟨-, -, -, hKK⟩ := validB_yes h.ok
                  have hki := (kinds_iff.1 hKK i (by have := HN2J.out; omega)).1
                  rw [HCV.out] at hki
                  exact hk0 hki)
                obtain ⟨q0, q1, q2', f0, f1, f2, hB', hz⟩ := out_cells (HBw.out.trans (b6.mono (by simp only [World.size_alloc]; omega)))
                clear b6 s3
                go_wp2
                refine bodyPost_ret ?_ rfl ⟨0, 0, 0, fun _ => 0, false, ⟨none, 0, rfl, ownRow_nil _ _ _, ((hB'.setCell (by simp) _).setCell (by simp) _).setCell (by simp) _⟩, .inr ⟨rfl, rfl, rfl, rfl, HNO.out⟩⟩
                simp [results, Tryd.results39, go_sem, q0, q1, q2']
            · obtain rfl : i = n2 := by omega
              have d0 := HP.out.cellv (i := 0) rfl
              have d1 := HP.out.cellv (i := 1) rfl
              have d2 := HP.out.cellv (i := 2) rfl
              have hPl := HP.out.lt
              obtain ⟨q0, q1, q2', f0, f1, f2, hB', hz⟩ := out_cells HBw.out
              have HBx := Lib.hid hB'
              clear hB'
              go_wp2
              obtain ⟨f, ho, hf⟩ := HO.out
              have hRP : RP s v1 v2 k j := by
                have n1 : RDok (s.extract 0 k) v1 := by
                  rcases HR1'.out with ⟨-, h⟩ | ⟨-, h, -⟩
                  · exact h
                  · have := HWs.out
                    rw [h] at this
                    exact absurd this (by decide)
                have n2 : RDok (s.extract (k + 1) j) v2 := by
                  rcases HR2'.out with ⟨-, h⟩ | ⟨-, h, -⟩
                  · exact h
                  · have := HHs.out
                    rw [h] at this
                    exact absurd this (by decide)
                refine ⟨hkj, hjs, HK2.out, HK1.out, fun t h1 h2 e => ?_, HJ2.out, fun t ht e => ?_, fun t h1 h2 e => ?_, n1, n2, valid_mk HWs.out HHs.out (by rw [← HN2J.out]; exact HNn.out) (kinds_iff.2 fun t ht => ⟨(hf t (by have := HN2J.out; omega)).2, (kindI_bd _).2⟩)⟩
                · have e1 := extract_bt s (k + 1) j (t - (k + 1)) (by omega) (by omega)
                  have e2 := bt_digit n2 (i := t - (k + 1)) (by rw [ByteArray.size_extract]; omega)
                  rw [e1, show k + 1 + (t - (k + 1)) = t by omega, e] at e2
                  omega
                · rcases Nat.lt_trichotomy t k with g | g | g
                  · have e1 := extract_bt s 0 k t (by omega) (by omega)
                    have e2 := bt_digit n1 (i := t) (by rw [ByteArray.size_extract]; omega)
                    rw [e1, Nat.zero_add, e] at e2
                    omega
                  · subst g
                    have := HK2.out
                    omega
                  · exact HJ1.out t g ht e
                · have := (hf (t - (j + 1)) (by have := HN2J.out; omega)).2
                  unfold rpF at this
                  rw [show j + 1 + (t - (j + 1)) = t by omega, e] at this
                  exact absurd this (by decide)
              refine bodyPost_ret ?_ rfl ⟨v1, v2, i, rpF s j, true, ⟨A4, c4, rfl, OwnRow.congr ((ownRow_setBox ho (by omega) _ _ _).mono (by omega)) (fun t ht => (hf t ht).1), ((HBx.out.setCell (by simp) _).setCell (by simp) _).setCell (by simp) _⟩, .inl ⟨rfl, k, j, hRP, HN2J.out, rfl⟩⟩
              simp [results, Tryd.results39, go_sem, q0, q1, q2']
        · have HNO : Hid (∀ a b k' j', ¬ RP s a b k' j') := Lib.hid (fun a b k' j' h => by
            obtain ⟨e1, e2, e3, e4⟩ := HEQ.out a b k' j' h
            subst e1 e2 e3 e4
            obtain ⟨-, -, hnn, -⟩ := validB_yes h.ok
            have := HNn.out
            have := HN2J.out
            omega)
          have hne : ((n2 : Int) != (n : Int)) = true := bne_iff_ne.2 (by omega)
          obtain ⟨q0, q1, q2', f0, f1, f2, hB', hz⟩ := out_cells (HB3.out.trans (HB5.out.mono (by simp only [World.size_alloc]; omega)))
          go_wp2
          refine bodyPost_ret ?_ rfl ⟨0, 0, 0, fun _ => 0, false, ⟨none, 0, rfl, ownRow_nil _ _ _, ((hB'.setCell (by simp) _).setCell (by simp) _).setCell (by simp) _⟩, .inr ⟨rfl, rfl, rfl, rfl, HNO.out⟩⟩
          simp [results, Tryd.results39, go_sem, q0, q1, q2']
      · have hsd' : sideB v1 = false ∨ sideB v2 = false := by
          cases h1 : sideB v1
          · exact .inl rfl
          · cases h2 : sideB v2
            · exact .inr rfl
            · exact absurd ⟨h1, h2⟩ hsd
        have HNO : Hid (∀ a b k' j', ¬ RP s a b k' j') := Lib.hid (fun a b k' j' h => by
          obtain ⟨e1, e2, e3, e4⟩ := HEQ.out a b k' j' h
          subst e1 e2 e3 e4
          obtain ⟨h1, h2, -, -⟩ := validB_yes h.ok
          exact hsd ⟨h1, h2⟩)
        have HNP := Lib.hid (implNewPanel_bad w3 v1 v2 hsd')
        clear hsd hsd'
        go_wp2_with fail
        refine HNP.out.mono ?_
        rintro e w4 ⟨A4, c4, rfl, -, b4⟩
        have HB4 := Lib.hid ((HB3.out.trans (b4.mono (by simp only [World.size_alloc]; omega))).alloc (by simp only [World.size_alloc]; have := b4.size; omega) (.cells #[.int .i64 0, .int .i64 0, .slice A4 0 c4] 26))
        obtain ⟨q0, q1, q2', f0, f1, f2, hB', hz⟩ := out_cells HB4.out
        clear b4 HNP
        go_wp2
        refine bodyPost_ret ?_ rfl ⟨0, 0, 0, fun _ => 0, false, ⟨none, 0, rfl, ownRow_nil _ _ _, ((hB'.setCell (by simp) _).setCell (by simp) _).setCell (by simp) _⟩, .inr ⟨rfl, rfl, rfl, rfl, HNO.out⟩⟩
        simp [results, Tryd.results39, go_sem, q0, q1, q2']
    · have HNO : Hid (∀ a b k' j', ¬ RP s a b k' j') := Lib.hid (fun a b k' j' h => by
        have ek := h.at_k HK1.out HK2.out
        subst ek
        have := h.kj
        have := h.js
        exact hy ⟨j' - (k' + 1), by omega, by rw [show k' + 1 + (j' - (k' + 1)) = j' by omega]; exact h.cj⟩)
      have HN2 := Lib.hid (nb_miss w2 (w.heap.size + 1) q n1 c2 s (k + 1) 58 (by decide) (by decide) HT2.out (fun i hi e => hy ⟨i, hi, e⟩))
      clear hy
      go_wp2_with fail
      refine HN2.out.mono ?_
      rintro e w3 ⟨rfl, rfl⟩
      go_wp2_with fail
      refine (implNewPanel_bad w2 v1 0 (.inr side_0)).mono ?_
      rintro e w4 ⟨A4, c4, rfl, -, b4⟩
      have HB4 := Lib.hid ((HB2.out.trans (b4.mono (by simp only [World.size_alloc]; omega))).alloc (by simp only [World.size_alloc]; have := b4.size; omega) (.cells #[.int .i64 0, .int .i64 0, .slice A4 0 c4] 26))
      obtain ⟨q0, q1, q2, f0, f1, f2, hB, hz⟩ := out_cells HB4.out
      clear b4
      go_wp2
      refine bodyPost_ret ?_ rfl ⟨0, 0, 0, fun _ => 0, false, ⟨none, 0, rfl, ownRow_nil _ _ _, ((hB.setCell (by simp) _).setCell (by simp) _).setCell (by simp) _⟩, .inr ⟨rfl, rfl, rfl, rfl, HNO.out⟩⟩
      simp [results, Tryd.results39, go_sem, q0, q1, q2]
  · have HNO : Hid (∀ a b k' j', ¬ RP s a b k' j') := Lib.hid (fun a b k' j' h => hx ⟨k', by have := h.kj; have := h.js; omega, h.xk⟩)
    have HN1 := Lib.hid (nb_miss w1 (w.heap.size + 1) 0 s.size c1 s 0 120 (by decide) (by decide) HS1.out (fun i hi e => hx ⟨i, hi, by rw [Nat.zero_add] at e; exact e⟩))
    clear hx
    go_enter Tryd.func39, Tryd.ntmps39
    go_wp2_with fail
    refine HN1.out.mono ?_
    rintro e w2 ⟨rfl, rfl⟩
    clear hcv0
    go_wp2_with fail
    refine (nb_nil w1 58).mono ?_
    rintro e w3 ⟨rfl, rfl⟩
    go_wp2_with fail
    refine (implNewPanel_bad w1 0 0 (.inr side_0)).mono ?_
    rintro e w4 ⟨A4, c4, rfl, -, b4⟩
    have HB4 := Lib.hid ((HB1.out.trans (b4.mono (by simp only [World.size_alloc]; omega))).alloc (by simp only [World.size_alloc]; have := b4.size; omega) (.cells #[.int .i64 0, .int .i64 0, .slice A4 0 c4] 26))
    obtain ⟨q0, q1, q2, f0, f1, f2, hB, hz⟩ := out_cells HB4.out
    clear b4
    go_wp2
    refine bodyPost_ret ?_ rfl ⟨0, 0, 0, fun _ => 0, false, ⟨none, 0, rfl, ownRow_nil _ _ _, ((hB.setCell (by simp) _).setCell (by simp) _).setCell (by simp) _⟩, .inr ⟨rfl, rfl, rfl, rfl, HNO.out⟩⟩
    simp [results, Tryd.results39, go_sem, q0, q1, q2]
end Go.Proofs.YtocnocchliihhaaDoor.Base
