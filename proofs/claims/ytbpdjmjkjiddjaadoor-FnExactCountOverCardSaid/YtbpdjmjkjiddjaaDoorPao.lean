/-
  PassesOver: the model's; the program's passages as values of an interface type.
-/
import Derived.Test.YtbpdjmjkjiddjaaDoorCxp
import Derived.Test.YtbpdjmjkjiddjaaDoorSgo
namespace Go.Proofs.YtbpdjmjkjiddjaaDoor.Base
open Go Go.RowKit
set_option linter.unusedVariables false
set_option linter.unusedSimpArgs false

theorem tk_isX {W H : Int} {f : Nat → Int} {x y : Int} (h : isX W H f x y = true) : tkOf W H f x y = 0 := by
  obtain ⟨he, hf⟩ := isX_edge h
  obtain ⟨h1, h2, h3, h4⟩ := edge_no he
  unfold tkOf
  rw [if_neg (by omega), if_neg (by omega), hf]
theorem tk_noX {W H : Int} {f : Nat → Int} {x y : Int} (h : isX W H f x y = false) : tkOf W H f x y ≠ 0 := by
  unfold tkOf
  split
  · omega
  · split
    · omega
    · rename_i h1 h2
      intro hf
      have he : edgeB W H x y = false := by unfold edgeB; exact decide_eq_false (by omega)
      rw [isX, he, hf] at h
      simp at h
/-- does the walker pass over at its next point? -/
def ovW (x dx dy : Int) : Bool := slV (x + dx) == dx * dy
def poC (W H : Int) (n : Nat) (f : Nat → Int) (x y dx dy : Int) : Int := if wkB W H n f x y dx dy then (if isX W H f (x + dx) (y + dy) then 0 else 6) else 1
def poV (W H : Int) (n : Nat) (f : Nat → Int) (x y dx dy : Int) : Bool := wkB W H n f x y dx dy && isX W H f (x + dx) (y + dy) && ovW x dx dy
theorem over_spec (w : World) (x y dx dy : Int) (x1 : 0 ≤ x) (x2 : x ≤ 16) (y1 : 0 ≤ y) (y2 : y ≤ 16) (hx : signB dx = true) (hy : signB dy = true) (n1 : 0 ≤ x + dx) (n2 : x + dx ≤ 16) :
    Calls Tryd.prog 135 #[.agg #[.int .i64 x, .int .i64 y, .int .i64 dx, .int .i64 dy]] w (Gives (.bool (ovW x dx dy)) w) := by
  have HL := Lib.hid (show Below w.heap.size w (w.alloc (.cells #[.int .i64 x, .int .i64 y, .int .i64 dx, .int .i64 dy] 131)) from (Below.refl _ _).alloc (Nat.le_refl _) _)
  have HD := Lib.hid (Cel.new w [.int .i64 x, .int .i64 y, .int .i64 dx, .int .i64 dy] 131)
  obtain ⟨ov, hov⟩ : ∃ ov, ovW x dx dy = ov := ⟨_, rfl⟩
  have hw1 : IntKind.i64.wrap (dx * dy) = dx * dy := by
    rcases sign_yes hx with e | e <;> rcases sign_yes hy with e2 | e2 <;> subst e <;> subst e2 <;> rfl
  rw [hov]
  have hob : (slV (x + dx) == dx * dy) = ov := hov
  clear hov
  go_enter Tryd.func135, Tryd.ntmps135
  go_wp2
  obtain ⟨wb, hwb⟩ : ∃ wb, w.alloc (.cells #[.int .i64 x, .int .i64 y, .int .i64 dx, .int .i64 dy] 131) = wb := ⟨_, rfl⟩
  obtain ⟨ba, hba⟩ : ∃ ba, w.heap.size = ba := ⟨_, rfl⟩
  rw [hwb] at HL HD ⊢
  rw [hba] at HD ⊢
  clear hwb
  have OL := Lib.hid (Old.mk_ (Below.refl wb.heap.size wb).drew)
  have dz := HD.out.1
  have d0 := HD.out.2 0 _ rfl
  have d1 := HD.out.2 1 _ rfl
  have d2 := HD.out.2 2 _ rfl
  have d3 := HD.out.2 3 _ rfl
  go_region_held3 (fun w' => (∀ b o, b < (wb).heap.size → w'.cell? ⟨b, o, none⟩ = (wb).cell? ⟨b, o, none⟩) ∧ Below (wb).heap.size (wb) w')
    (first | assumption | exact OL.out | exact Old.trans (by assumption) (by assumption))
    (first | (go_at_call 132; refine (specNext _ x y dx dy x1 x2 y1 y2 hx hy).mono ?_; rintro e wa ⟨rfl, bq⟩) | (go_at_call 172; refine (slope_spec _ (x + dx) (y + dy) n1 n2).mono ?_; rintro e wa ⟨rfl, bq⟩))
  rename_i hS
  have hB := Lib.hid hS.2
  clear hS OL
  go_wp2
  go_ret
  exact ⟨rfl, HL.out.trans (hB.out.mono HL.out.size)⟩
theorem slope_any (w : World) (x y dx dy : Int) (hx : signB dx = true) (hy : signB dy = true) : Calls Tryd.prog 146 #[.agg #[.int .i64 x, .int .i64 y, .int .i64 dx, .int .i64 dy]] w (Gives (.int .i64 (dx * dy)) w) := by
  have HL := Lib.hid (show Below w.heap.size w (w.alloc (.cells #[.int .i64 x, .int .i64 y, .int .i64 dx, .int .i64 dy] 131)) from (Below.refl _ _).alloc (Nat.le_refl _) _)
  have hw1 : IntKind.i64.wrap (dx * dy) = dx * dy := by
    rcases sign_yes hx with e | e <;> rcases sign_yes hy with e2 | e2 <;> subst e <;> subst e2 <;> rfl
  go_enter Tryd.func146, Tryd.ntmps146
  go_wp2
  go_ret
  exact ⟨rfl, HL.out⟩
/-- how the walker passes its next point, as a value of the interface type -/
def psT (W H : Int) (f : Nat → Int) (x y dx dy : Int) : TypeId := if isX W H f (x + dx) (y + dy) then (if ovW x dx dy then 185 else 186) else 184
set_option maxHeartbeats 1000000 in
theorem impl_passage (w : World) (W H : Int) (A : Option Addr) (n c : Nat) (f : Nat → Int) (x y dx dy : Int) (hr : Row .i64 w A n c f) (hw : wkB W H n f x y dx dy = true) :
    Calls Tryd.prog 97 #[.agg #[.int .i64 W, .int .i64 H, .slice A n c], .agg #[.int .i64 x, .int .i64 y, .int .i64 dx, .int .i64 dy]] w (Gives (.iface (psT W H f x y dx dy) (.agg #[.int .i64 (x + dx), .int .i64 (y + dy)])) w) := by
  have HL := Lib.hid (show Below w.heap.size w ((w.alloc (.cells #[.int .i64 W, .int .i64 H, .slice A n c] 35)).alloc (.cells #[.int .i64 x, .int .i64 y, .int .i64 dx, .int .i64 dy] 131)) from ((Below.refl _ _).alloc (Nat.le_refl _) _).alloc (by simp) _)
  have X0 := (Cel.new w [.int .i64 W, .int .i64 H, .slice A n c] 35).below ((Below.refl _ (w.alloc (.cells #[.int .i64 W, .int .i64 H, .slice A n c] 35))).alloc (Nat.le_refl _) (.cells #[.int .i64 x, .int .i64 y, .int .i64 dx, .int .i64 dy] 131)) (by simp)
  have HX := Lib.hid X0
  have D0 := Cel.new (w.alloc (.cells #[.int .i64 W, .int .i64 H, .slice A n c] 35)) [.int .i64 x, .int .i64 y, .int .i64 dx, .int .i64 dy] 131
  simp only [World.size_alloc] at D0
  have HD := Lib.hid D0
  have HR := Lib.hid (hr.below HL.out (Nat.le_refl _))
  clear hr D0 X0
  obtain ⟨hW, hH, x1, x2, y1, y2, g1, g2⟩ := goW hw
  obtain ⟨h4, n1, n2, m1, m2⟩ := goNext hw
  obtain ⟨hn, hK⟩ := goAll hw
  have HN := Lib.hid hn
  have hX0 := @tk_isX W H f (x + dx) (y + dy)
  have hX1 := @tk_noX W H f (x + dx) (y + dy)
  obtain ⟨tk, htk⟩ : ∃ tk, tkOf W H f (x + dx) (y + dy) = tk := ⟨_, rfl⟩
  rw [htk] at hX0 hX1
  have HT := Lib.hid (fun (w9 : World) (h9 : Row .i64 w9 A n c f) => (by have h := implTurn w9 W H A n c f (x + dx) (y + dy) h9 hn hW hH h4; rw [htk] at h; exact h : Calls Tryd.prog 145 #[.agg #[.int .i64 W, .int .i64 H, .slice A n c], .agg #[.int .i64 (x + dx), .int .i64 (y + dy)]] w9 (Gives (.int .i64 tk) w9)))
  unfold psT
  obtain ⟨tb, htb⟩ : ∃ tb, (tk != 0) = tb := ⟨_, rfl⟩
  obtain ⟨ov, hov⟩ : ∃ ov, ovW x dx dy = ov := ⟨_, rfl⟩
  have hob : (dx * dy == slV (x + dx)) = ov := by rw [← hov]; unfold ovW; rw [Bool.eq_iff_iff, beq_iff_eq, beq_iff_eq]; exact eq_comm
  rw [hov]
  have hXt : isX W H f (x + dx) (y + dy) = !tb := by
    rw [← htb]
    cases hX : isX W H f (x + dx) (y + dy)
    · have := hX1 hX; simp [this]
    · have := hX0 hX; simp [this]
  rw [hXt]
  clear hX0 hX1 htk hXt hov hn hK hw
  cases tb
  · cases ov
    all_goals
      go_enter Tryd.func97, Tryd.ntmps97
      go_wp2_with fail
      refine (implNext _ x y dx dy x1 x2 y1 y2 g1 g2).mono ?_
      rintro e w1 ⟨rfl, b1⟩
      have X1 := Lib.hid (HX.out.below b1 HX.out.1)
      have R1 := Lib.hid (HR.out.below b1 (Nat.le_refl _))
      have D1 := Lib.hid (HD.out.below b1 HD.out.1)
      have L1 := Lib.hid (HL.out.trans (b1.mono HL.out.size))
      have BQ := (Below.refl w1.heap.size w1).alloc (Nat.le_refl _) (.cells #[.int .i64 (x + dx), .int .i64 (y + dy)] 61)
      have X2 := Lib.hid (X1.out.below BQ X1.out.1)
      have R2 := Lib.hid (R1.out.below BQ (Nat.le_refl _))
      have D2 := Lib.hid (D1.out.below BQ D1.out.1)
      have Q2 := Lib.hid (Cel.new w1 [.int .i64 (x + dx), .int .i64 (y + dy)] 61)
      have L2 := Lib.hid (L1.out.trans (BQ.mono L1.out.size))
      have pz := X2.out.1
      have p0 := X2.out.2 0 _ rfl
      have p1 := X2.out.2 1 _ rfl
      have p2 := X2.out.2 2 _ rfl
      clear b1 HX HR HD HL X1 R1 D1 L1 BQ
      go_wp2_with fail
      refine (HT.out _ R2.out).mono ?_
      rintro e w3 ⟨rfl, b3⟩
      have D3 := Lib.hid (D2.out.below b3 D2.out.1)
      have Q3 := Lib.hid (Q2.out.below b3 Q2.out.1)
      have L3 := Lib.hid (L2.out.trans (b3.mono L2.out.size))
      clear pz p0 p1 p2 b3 X2 R2 D2 Q2 L2
      have qz := Q3.out.1
      have q0 := Q3.out.2 0 _ rfl
      have q1 := Q3.out.2 1 _ rfl
      have dz := D3.out.1
      have d0 := D3.out.2 0 _ rfl
      have d1 := D3.out.2 1 _ rfl
      have d2 := D3.out.2 2 _ rfl
      have d3 := D3.out.2 3 _ rfl
      go_wp2
      generalize w1.heap.size = bq at *
      have OL := Lib.hid (Old.mk_ (Below.refl w3.heap.size w3).drew)
      go_region_held3 (fun w' => (∀ b o, b < (w3).heap.size → w'.cell? ⟨b, o, none⟩ = (w3).cell? ⟨b, o, none⟩) ∧ Below (w3).heap.size (w3) w')
        (first | assumption | exact OL.out | exact Old.trans (by assumption) (by assumption))
        (first | (go_at_call 146; refine (slope_any _ x y dx dy g1 g2).mono ?_; rintro e wa ⟨rfl, bq1⟩) | (go_at_call 82; refine (slope_impl _ (x + dx) (y + dy) n1 n2).mono ?_; rintro e wa ⟨rfl, bq1⟩))
      rename_i hS
      have hB := Lib.hid hS.2
      have qz4 : bq < _ := Nat.lt_of_lt_of_le qz hB.out.size
      have q04 := (hB.out.cell (p := ⟨bq, 0, none⟩) qz).trans q0
      have q14 := (hB.out.cell (p := ⟨bq, 1, none⟩) qz).trans q1
      clear hS OL
      go_wp2
      go_ret
      exact ⟨rfl, L3.out.trans (hB.out.mono L3.out.size)⟩
  · have e9 : (if (!true) = true then (if ov = true then 185 else 186) else 184) = 184 := rfl
    rw [e9]
    clear e9 hob
    go_enter Tryd.func97, Tryd.ntmps97
    go_wp2_with fail
    refine (implNext _ x y dx dy x1 x2 y1 y2 g1 g2).mono ?_
    rintro e w1 ⟨rfl, b1⟩
    have X1 := Lib.hid (HX.out.below b1 HX.out.1)
    have R1 := Lib.hid (HR.out.below b1 (Nat.le_refl _))
    have D1 := Lib.hid (HD.out.below b1 HD.out.1)
    have L1 := Lib.hid (HL.out.trans (b1.mono HL.out.size))
    have BQ := (Below.refl w1.heap.size w1).alloc (Nat.le_refl _) (.cells #[.int .i64 (x + dx), .int .i64 (y + dy)] 61)
    have X2 := Lib.hid (X1.out.below BQ X1.out.1)
    have R2 := Lib.hid (R1.out.below BQ (Nat.le_refl _))
    have D2 := Lib.hid (D1.out.below BQ D1.out.1)
    have Q2 := Lib.hid (Cel.new w1 [.int .i64 (x + dx), .int .i64 (y + dy)] 61)
    have L2 := Lib.hid (L1.out.trans (BQ.mono L1.out.size))
    have pz := X2.out.1
    have p0 := X2.out.2 0 _ rfl
    have p1 := X2.out.2 1 _ rfl
    have p2 := X2.out.2 2 _ rfl
    clear b1 HX HR HD HL X1 R1 D1 L1 BQ
    go_wp2_with fail
    refine (HT.out _ R2.out).mono ?_
    rintro e w3 ⟨rfl, b3⟩
    have D3 := Lib.hid (D2.out.below b3 D2.out.1)
    have Q3 := Lib.hid (Q2.out.below b3 Q2.out.1)
    have L3 := Lib.hid (L2.out.trans (b3.mono L2.out.size))
    clear pz p0 p1 p2 b3 X2 R2 D2 Q2 L2
    have qz := Q3.out.1
    have q0 := Q3.out.2 0 _ rfl
    have q1 := Q3.out.2 1 _ rfl
    go_wp2
    go_ret
    exact ⟨rfl, L3.out⟩
theorem as_oo (w : World) (v : Value) : (Instr.typeAssert (.iface 185 v) 140 185 true).run Tryd.prog w = .ok (.tuple #[v, .bool true]) w := by kernel_rfl
theorem as_uo (w : World) (v : Value) : (Instr.typeAssert (.iface 186 v) 140 185 true).run Tryd.prog w = .ok (.tuple #[.agg #[.int .i64 0, .int .i64 0], .bool false]) w := by kernel_rfl
theorem as_uu (w : World) (v : Value) : (Instr.typeAssert (.iface 186 v) 140 186 true).run Tryd.prog w = .ok (.tuple #[v, .bool true]) w := by kernel_rfl
theorem as_to (w : World) (v : Value) : (Instr.typeAssert (.iface 184 v) 140 185 true).run Tryd.prog w = .ok (.tuple #[.agg #[.int .i64 0, .int .i64 0], .bool false]) w := by kernel_rfl
theorem as_tu (w : World) (v : Value) : (Instr.typeAssert (.iface 184 v) 140 186 true).run Tryd.prog w = .ok (.tuple #[.agg #[.int .i64 0, .int .i64 0], .bool false]) w := by kernel_rfl
theorem passed_over (w : World) (x y : Int) : Calls Tryd.prog 98 #[.iface 185 (.agg #[.int .i64 x, .int .i64 y])] w (Gives (.tuple #[.bool true, .bool true]) w) := by
  have h1 := as_oo w (.agg #[.int .i64 x, .int .i64 y])
  go_enter Tryd.func98, Tryd.ntmps98
  go_wp2
  go_ret2
  exact ⟨rfl, Below.refl _ _⟩
theorem passed_under (w : World) (x y : Int) : Calls Tryd.prog 98 #[.iface 186 (.agg #[.int .i64 x, .int .i64 y])] w (Gives (.tuple #[.bool false, .bool true]) w) := by
  have h1 := as_uo w (.agg #[.int .i64 x, .int .i64 y])
  have h2 := as_uu w (.agg #[.int .i64 x, .int .i64 y])
  go_enter Tryd.func98, Tryd.ntmps98
  go_wp2
  go_ret2
  exact ⟨rfl, Below.refl _ _⟩
theorem passed_turn (w : World) (x y : Int) : Calls Tryd.prog 98 #[.iface 184 (.agg #[.int .i64 x, .int .i64 y])] w (Gives (.tuple #[.bool false, .bool false]) w) := by
  have h1 := as_to w (.agg #[.int .i64 x, .int .i64 y])
  have h2 := as_tu w (.agg #[.int .i64 x, .int .i64 y])
  go_enter Tryd.func98, Tryd.ntmps98
  go_wp2
  go_ret2
  exact ⟨rfl, Below.refl _ _⟩
theorem passed_any (w : World) (W H : Int) (f : Nat → Int) (x y dx dy a b : Int) : Calls Tryd.prog 98 #[.iface (psT W H f x y dx dy) (.agg #[.int .i64 a, .int .i64 b])] w (Gives (.tuple #[.bool (isX W H f (x + dx) (y + dy) && ovW x dx dy), .bool (isX W H f (x + dx) (y + dy))]) w) := by
  unfold psT
  cases isX W H f (x + dx) (y + dy)
  · exact passed_turn w a b
  · cases ovW x dx dy
    · exact passed_under w a b
    · exact passed_over w a b
theorem pass_other {W H : Int} {n : Nat} {g : Nat → Int} {x y dx dy ex ey a b : Int} (hw : wkB W H n g x y dx dy = true) (hX : isX W H g (x + dx) (y + dy) = true) (ha : signB a = true) (hb : signB b = true) (e1 : ex + a = x + dx) (e2 : ey + b = y + dy) :
    poC W H n g ex ey a b = 0 ∧ poV W H n g ex ey a b = (slV (x + dx) == a * b) := by
  have hv := (wk_valid hw).1
  obtain ⟨h4, n1, n2, m1, m2⟩ := goNext hw
  obtain ⟨he, -⟩ := isX_edge hX
  obtain ⟨q1, q2, q3, q4⟩ := edge_no he
  obtain ⟨g1, g2, g3, g4, g5⟩ := has_yes h4
  have ha' := sign_yes ha
  have hb' := sign_yes hb
  have hh : hasB W H ex ey = true := has_mk (by omega) (by omega) (by omega) (by omega) (by omega)
  have hk : wkB W H n g ex ey a b = true := by
    rw [wk_is hv, go_is ha hb hh, e1, e2]
    exact h4
  refine ⟨by unfold poC; rw [if_pos hk, e1, e2, hX]; rfl, ?_⟩
  unfold poV ovW
  rw [hk, e1, e2, hX]
  rfl
theorem slV_sign (x : Int) : slV x = 1 ∨ slV x = -1 := by unfold slV; split <;> simp
theorem sign_neg {d : Int} (h : signB d = true) : signB (-d) = true := by
  rcases sign_yes h with e | e <;> subst e <;> rfl
theorem pass_back {s dx dy : Int} : (s == (-dx) * (-dy)) = (s == dx * dy) := by rw [Int.neg_mul_neg]
theorem pass_across {s dx dy : Int} (hs : s = 1 ∨ s = -1) (hx : signB dx = true) (hy : signB dy = true) : (s == dx * (-dy)) = !(s == dx * dy) := by
  rcases sign_yes hx with e | e <;> rcases sign_yes hy with e2 | e2 <;> rcases hs with e3 | e3 <;> subst e e2 e3 <;> rfl
end Go.Proofs.YtbpdjmjkjiddjaaDoor.Base
