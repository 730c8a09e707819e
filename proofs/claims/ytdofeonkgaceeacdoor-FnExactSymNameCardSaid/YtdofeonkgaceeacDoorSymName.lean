/- Proved: whatever number SymName of the program is called with, it answers as the model; the table of names starts as the program's text lays it (the card ties it). -/
import Derived.Test.YtdofeonkgaceeacDoorCards
import Derived.Test.YtdofeonkgaceeacDoorTie
import Derived.WalkKit
import Derived.ProofKit
import Derived.OpenShut
import Derived.ShutString
import Derived.OpenVars
import Derived.Handy
import Derived.Carry
import Derived.Deep.DeepHandedRow
import Derived.Lib.LaidTab
namespace Go.Proofs.YtdofeonkgaceeacDoor.fnExactSymName
open Go.ChangeShapes Go.WideShapes Go.ChangeAt Go.RowKit
set_option linter.unusedVariables false
set_option maxRecDepth 100000


/-- an array of strings that reads as a table holds the table's strings, cell for cell -/
theorem cells_of_strs {H : Type} {enc : TypeId × Value → H} {P : Program} {w : World} {base : Nat} {sp : Nat → Bool} {held : Bool} {fuel : Nat} {t e : TypeId} {n : Nat} {cs : List Value} {ss : List ByteArray} {p : List MemPlace}
    (ht : P.underlying t = some (.array n e)) (he : P.underlying e = some .string) (hce : P.cellsOf e = 1)
    (h : DataW.trod enc P w base sp held fuel t cs = some (.agg (ss.map fun s => .lit (.string s.data.toList)), p)) (i : Nat) (hi : i < n) (s : ByteArray) (hs : ss[i]? = some s) : cs[i]? = some (.string s) := by
  obtain ⟨xs, m, -, hx, hlen, hn, hel⟩ := DataW.trod_array ht h
  have hxi := hel i hi
  rw [hce, Nat.mul_one] at hxi
  have hxs : xs.map (·.1) = ss.map fun s => (DataW.lit (.string s.data.toList) : DataW H) := by
    have := congrArg Prod.fst hx
    simpa using this.symm
  have hxl : xs[i]? = some (xs[i]'(by omega)) := List.getElem?_eq_getElem (by omega)
  rw [hxl] at hxi
  obtain ⟨s', hc, hy, _⟩ := DataW.trod_string he hxi
  have h1 : cs[i]? = some (.string s') := by
    have := congrArg (·[0]?) hc
    simpa [List.getElem?_take, List.getElem?_drop] using this
  have h2 : (xs.map (·.1))[i]? = some (DataW.lit (.string s'.data.toList) : DataW H) := by rw [List.getElem?_map, hxl, hy]; rfl
  rw [hxs] at h2
  simp only [List.getElem?_map, hs, Option.map_some, Option.some.injEq, DataW.lit.injEq, Lit.string.injEq] at h2
  have e : s = s' := by
    obtain ⟨a⟩ := s
    obtain ⟨b⟩ := s'
    congr 1
    exact Array.toList_inj.1 h2
  rw [h1, e]

def names : List ByteArray := [⟨#[110, 111, 110, 101]⟩, ⟨#[97, 99, 114, 111, 115, 115]⟩, ⟨#[100, 111, 119, 110]⟩, ⟨#[104, 97, 108, 102]⟩, ⟨#[115, 119, 97, 112]⟩, ⟨#[114, 105, 103, 104, 116]⟩, ⟨#[108, 101, 102, 116]⟩, ⟨#[111, 116, 104, 101, 114]⟩]
theorem own : ownKnob Tryd.prog.godebug = none := by kernel_rfl
theorem laidOut : laidOutB Tryd.prog = true := by kernel_rfl
theorem gTab : Tryd.prog.globalNamed "loop.example/g00931/impl.symNames" = some 0 := by kernel_rfl
theorem gTabType : (Tryd.prog.globals[0]?).map (·.type) = some 55 := by kernel_rfl
theorem cellsS : Tryd.prog.cellsOf 9 = 1 := by kernel_rfl

theorem table {W : World} (h : laidMetH Tryd.prog Rows.fnExactSymNameRow.laid W) (i : Nat) (hi : i < 8) (s : ByteArray) (hs : names[i]? = some s) : W.cell? ⟨0, i, none⟩ = some (.string s) := by
  rw [MakeChecks.laidMetH_plain _ _ _ (by kernel_rfl)] at h
  obtain ⟨ps, ⟨g', t', cs, fuel, p, q, hg', ht', hvar, hd, _, _⟩, _⟩ := h
  obtain rfl := Option.some.inj (gTab.symm.trans hg')
  obtain rfl := Option.some.inj (gTabType.symm.trans ht')
  have hc := cells_of_strs (ss := names) Tryd.underlying55 Tryd.underlying9 cellsS hd i hi s hs
  have hv := World.var?_cell hg' hvar i
  rw [hv]
  simpa using hc

theorem walk_lo (a : Int) (w : World) (h : a < 0) :
    Calls Tryd.prog 3 #[.int .i64 a] w fun e w' => e = .returned (.bool true) ∧ Below w.heap.size w w' := by
  go_enter Tryd.func3, Tryd.ntmps3
  go_wp2
  go_ret
  exact ⟨rfl, by go_grown⟩
theorem walk_hi (a : Int) (w : World) (h : 7 < a) :
    Calls Tryd.prog 3 #[.int .i64 a] w fun e w' => e = .returned (.bool true) ∧ Below w.heap.size w w' := by
  have h0 : 0 ≤ a := by omega
  have hd : decide (a ≤ 7) = false := decide_eq_false (by omega)
  have hd2 : decide (a < 8) = false := decide_eq_false (by omega)
  go_enter Tryd.func3, Tryd.ntmps3
  go_wp2
  go_ret
  exact ⟨rfl, by go_grown⟩
theorem walk_0 (w : World) (h : w.cell? ⟨0, 0, none⟩ = some (.string ⟨#[110, 111, 110, 101]⟩)) :
    Calls Tryd.prog 3 #[.int .i64 0] w fun e w' => e = .returned (.bool true) ∧ Below w.heap.size w w' := by
  have hz : 0 < w.heap.size := World.block_lt_of_cell? _ _ h
  go_enter Tryd.func3, Tryd.ntmps3
  go_wp2
  go_ret
  exact ⟨rfl, by go_grown⟩
theorem walk_1 (w : World) (h : w.cell? ⟨0, 1, none⟩ = some (.string ⟨#[97, 99, 114, 111, 115, 115]⟩)) :
    Calls Tryd.prog 3 #[.int .i64 1] w fun e w' => e = .returned (.bool true) ∧ Below w.heap.size w w' := by
  have hz : 0 < w.heap.size := World.block_lt_of_cell? _ _ h
  go_enter Tryd.func3, Tryd.ntmps3
  go_wp2
  go_ret
  exact ⟨rfl, by go_grown⟩
theorem walk_2 (w : World) (h : w.cell? ⟨0, 2, none⟩ = some (.string ⟨#[100, 111, 119, 110]⟩)) :
    Calls Tryd.prog 3 #[.int .i64 2] w fun e w' => e = .returned (.bool true) ∧ Below w.heap.size w w' := by
  have hz : 0 < w.heap.size := World.block_lt_of_cell? _ _ h
  go_enter Tryd.func3, Tryd.ntmps3
  go_wp2
  go_ret
  exact ⟨rfl, by go_grown⟩
theorem walk_3 (w : World) (h : w.cell? ⟨0, 3, none⟩ = some (.string ⟨#[104, 97, 108, 102]⟩)) :
    Calls Tryd.prog 3 #[.int .i64 3] w fun e w' => e = .returned (.bool true) ∧ Below w.heap.size w w' := by
  have hz : 0 < w.heap.size := World.block_lt_of_cell? _ _ h
  go_enter Tryd.func3, Tryd.ntmps3
  go_wp2
  go_ret
  exact ⟨rfl, by go_grown⟩
theorem walk_4 (w : World) (h : w.cell? ⟨0, 4, none⟩ = some (.string ⟨#[115, 119, 97, 112]⟩)) :
    Calls Tryd.prog 3 #[.int .i64 4] w fun e w' => e = .returned (.bool true) ∧ Below w.heap.size w w' := by
  have hz : 0 < w.heap.size := World.block_lt_of_cell? _ _ h
  go_enter Tryd.func3, Tryd.ntmps3
  go_wp2
  go_ret
  exact ⟨rfl, by go_grown⟩
theorem walk_5 (w : World) (h : w.cell? ⟨0, 5, none⟩ = some (.string ⟨#[114, 105, 103, 104, 116]⟩)) :
    Calls Tryd.prog 3 #[.int .i64 5] w fun e w' => e = .returned (.bool true) ∧ Below w.heap.size w w' := by
  have hz : 0 < w.heap.size := World.block_lt_of_cell? _ _ h
  go_enter Tryd.func3, Tryd.ntmps3
  go_wp2
  go_ret
  exact ⟨rfl, by go_grown⟩
theorem walk_6 (w : World) (h : w.cell? ⟨0, 6, none⟩ = some (.string ⟨#[108, 101, 102, 116]⟩)) :
    Calls Tryd.prog 3 #[.int .i64 6] w fun e w' => e = .returned (.bool true) ∧ Below w.heap.size w w' := by
  have hz : 0 < w.heap.size := World.block_lt_of_cell? _ _ h
  go_enter Tryd.func3, Tryd.ntmps3
  go_wp2
  go_ret
  exact ⟨rfl, by go_grown⟩
theorem walk_7 (w : World) (h : w.cell? ⟨0, 7, none⟩ = some (.string ⟨#[111, 116, 104, 101, 114]⟩)) :
    Calls Tryd.prog 3 #[.int .i64 7] w fun e w' => e = .returned (.bool true) ∧ Below w.heap.size w w' := by
  have hz : 0 < w.heap.size := World.block_lt_of_cell? _ _ h
  go_enter Tryd.func3, Tryd.ntmps3
  go_wp2
  go_ret
  exact ⟨rfl, by go_grown⟩

theorem walk (w : World) (a : Int) (tab : ∀ i, i < 8 → ∀ s, names[i]? = some s → w.cell? ⟨0, i, none⟩ = some (.string s)) :
    Calls Tryd.prog 3 #[.int .i64 a] w fun e w' => e = .returned (.bool true) ∧ Below w.heap.size w w' := by
  by_cases h1 : a < 0
  · exact walk_lo a w h1
  · by_cases h2 : 7 < a
    · exact walk_hi a w h2
    · have h3 : a = 0 ∨ a = 1 ∨ a = 2 ∨ a = 3 ∨ a = 4 ∨ a = 5 ∨ a = 6 ∨ a = 7 := by omega
      rcases h3 with rfl | rfl | rfl | rfl | rfl | rfl | rfl | rfl
      · exact walk_0 w (tab 0 (by omega) _ rfl)
      · exact walk_1 w (tab 1 (by omega) _ rfl)
      · exact walk_2 w (tab 2 (by omega) _ rfl)
      · exact walk_3 w (tab 3 (by omega) _ rfl)
      · exact walk_4 w (tab 4 (by omega) _ rfl)
      · exact walk_5 w (tab 5 (by omega) _ rfl)
      · exact walk_6 w (tab 6 (by omega) _ rfl)
      · exact walk_7 w (tab 7 (by omega) _ rfl)
/-- WHAT THE WALK GIVES, FOR EVERY ARGUMENT AND EVERY WORLD THAT HOLDS THE TABLE -/
theorem contract (H : Type) (enc : TypeId × Value → H) (W : World) (base : Nat) (args : Array Value) (ds gs : List (DataW H)) (before : List MemPlace)
    (hval : ∀ (j : Nat) t v, Tryd.f3.params[j]? = some t → args[j]? = some v → Value.okWide Tryd.prog W .any base t v)
    (hW : DataW.Whole enc Tryd.prog Tryd.f3.params.toList Rows.fnExactSymNameSpec.vars false W args.toList ds gs before) (hL : laidMetH Tryd.prog Rows.fnExactSymNameRow.laid W) :
    Calls Tryd.prog 3 args W fun e W' => ∃ v, e = .returned v ∧ Rows.fnExactSymNameSpec.post enc Tryd.prog Tryd.f3 false true false false W args v W' := by
  have hW' := hW
  obtain ⟨p, q, hA0, hV, rfl, hfz, hnd⟩ := hW
  have hA : DataW.TrodAll enc Tryd.prog W 0 (fun _ => true) true Tryd.f3.params.toList args.toList ds p := hA0
  rw [Tryd.params3] at hA hval
  obtain ⟨v0, vs0, d0, ds0, p0, q0, hargs, rfl, rfl, h0, tl0⟩ := trodAll_cons hA
  obtain ⟨rfl, rfl, rfl⟩ := trodAll_nil tl0
  obtain rfl : args = #[v0] := by cases args; simp_all
  have k0 := h0
  have lt0 : ∀ x ∈ p0, x.block < W.heap.size := by obtain ⟨m, hm⟩ := k0; exact DataW.trod_lt m _ _ _ hm
  obtain ⟨a0, rfl, rfl, rfl, w0⟩ := open_int Tryd.underlying2 (hval 0 2 v0 rfl rfl) h0
  clear hA0
  refine (walk W a0 (fun i hi s hs => table hL i hi s hs)).mono fun e W' ⟨he, bel⟩ => ?_
  subst he
  match gs, hV with
  | [g1], hV =>
    exact ⟨_, rfl, _, _, _, [], _, q, hW', trodAll_mk1 (shut_bool Tryd.underlying4 _), (trodAll_cons_mk (Below.trod laidOut (by kernel_rfl) (of_decide_eq_true (by kernel_rfl)) k0 bel lt0) trodAll_mk0), Below.trodVars laidOut bel (by kernel_rfl) hV, bel.frame _, fun h => by cases h⟩

/-- A WORLD FOR THE WITNESS: the settled one, the table holding what its initialiser lays. -/
noncomputable def laidWorld (os : Os) : World :=
  { World.holding Tryd.prog os ⟨#[], #[], []⟩ with heap := (World.holding Tryd.prog os ⟨#[], #[], []⟩).heap.modify 0 fun
      | .cells _ t frozen => .cells #[.string ⟨#[110, 111, 110, 101]⟩, .string ⟨#[97, 99, 114, 111, 115, 115]⟩, .string ⟨#[100, 111, 119, 110]⟩, .string ⟨#[104, 97, 108, 102]⟩, .string ⟨#[115, 119, 97, 112]⟩, .string ⟨#[114, 105, 103, 104, 116]⟩, .string ⟨#[108, 101, 102, 116]⟩, .string ⟨#[111, 116, 104, 101, 114]⟩] t frozen
      | o => o }

theorem laid_met (os : Os) : laidMet Tryd.prog Rows.fnExactSymNameRow.laid ((laidWorld os).forCall (fun _ _ => 0) ⟨#[], #[.int .i64 0], []⟩).memory :=
  laidMet_of_run' 8 (by kernel_rfl) (by kernel_rfl)

theorem reads (os : Os) {H : Type} (enc : TypeId × Value → H) : ∃ gs places, DataW.whole enc Tryd.prog ((laidWorld os).forCall (fun _ _ => 0) ⟨#[], #[.int .i64 0], []⟩).memory Tryd.f3.params.toList Rows.fnExactSymNameSpec.vars false #[Value.int .i64 0].toList 8 = some ([.lit (.int .i64 0)], gs, places) :=
  ⟨[Rows.laid_loop_example_g00931_impl_symNames], [.cell 0 0, .cell 0 1, .cell 0 2, .cell 0 3, .cell 0 4, .cell 0 5, .cell 0 6, .cell 0 7], by kernel_rfl⟩


theorem lifted (os : Os) (started : os.Started) (H : Type) (enc : TypeId × Value → H) (F : Stop.Interp) :
    ReturnsInHanded {} Tryd.checked os 3 .any ((OpenSpec.ofChange Rows.fnExactSymNameSpec).preRow enc Tryd.prog Tryd.f3 Rows.fnExactSymNameRow.domain false Rows.fnExactSymNameRow.laid) (((OpenSpec.ofChange Rows.fnExactSymNameSpec).at F).post enc Tryd.prog Tryd.f3 false true false false) := by
  obtain ⟨gs, places, hx⟩ := reads os enc
  refine returnsInHanded_of_row (C := Tryd.checked) (s := OpenSpec.ofChange Rows.fnExactSymNameSpec) own started (by kernel_rfl) Tryd.func3
    (witness_row_at (enc := enc) (C := Tryd.checked) false (laidWorld os) #[.int .i64 0] rfl (by kernel_rfl) (by kernel_rfl) (by kernel_rfl)
      (OpenSpec.preRow_of_cond 8 hx (by kernel_rfl) (fun k hk => by cases hk) (by kernel_rfl) (laid_met os))) ?_
  intro W base args ds gs before hval hW _ _ _ hL _ _
  exact contract H enc W base args ds gs before hval hW hL


theorem said : Rows.FnExactSymNameSaid :=
  OpenClaim.holds_of_cond 3 Tryd.f3 rfl rfl rfl rfl rfl rfl rfl ⟨rfl, rfl, rfl, rfl, rfl⟩ rfl rfl rfl rfl rfl (by kernel_rfl) Tryd.func3 (by kernel_rfl)
    (of_decide_eq_true (by kernel_rfl)) (by unfold Func.isWrapper; first | (rw [if_pos (by decide +kernel)]; kernel_rfl) | (rw [if_neg (by decide +kernel)]; exact ⟨rfl, rfl⟩))
    (fun os started H enc _ F => by rw [OpenClaim.pre_eq_preRow]; exact lifted os started H enc F)

theorem plain (f : FuncId) (fn : Func) (hf : Tryd.pinned.checked.prog.funcNamed "loop.example/g00931/laws.FnExactSymName" = some f) (hfn : Tryd.pinned.checked.prog.funcs[f]? = some fn) :
    true = Tryd.pinned.checked.prog.looks [] ∧ ∀ (j : Nat) t, fn.params[j]? = some t → Tryd.pinned.checked.prog.wantsStandIn t = false := by
  obtain rfl : f = 3 := Option.some.inj ((show Tryd.prog.funcNamed "loop.example/g00931/laws.FnExactSymName" = some 3 by kernel_rfl).symm.trans hf) |>.symm
  obtain rfl : fn = Tryd.f3 := (Option.some.inj (Tryd.func3.symm.trans hfn)).symm
  refine ⟨by kernel_rfl, fun j t ht => ?_⟩
  rw [Tryd.params3] at ht
  obtain rfl : t = 2 := by simpa using Array.mem_of_getElem? ht
  exact (show Tryd.prog.wantsStandIn 2 = false by kernel_rfl)

theorem card : Rows.FnExactSymNameCardSaid :=
  Claim7.holds_tied_plain_at .later [] _ _ _ _ said (fun _ h => by cases h) (by kernel_rfl) (fun _ h => by cases h) fnExactSymName_row_tie rfl ⟨rfl, rfl⟩ (by kernel_rfl) rfl plain (by kernel_rfl)
#print axioms card
end Go.Proofs.YtdofeonkgaceeacDoor.fnExactSymName
