/-
  What is proved: called with any arguments, laws.FnExactCoordinatesIn returns true, panics never, and leaves each argument as it was (the given statement Rows.FnExactCoordinatesInCardSaid, with the error variables tied to the program's text).
  Conditions: none beyond the statement's own.
-/
import Derived.Test.YtjjblgmokmalaaaDoorOpen
import Derived.Test.YtjjblgmokmalaaaDoorCards
import Derived.Test.YtjjblgmokmalaaaDoorTie
import Derived.Test.YtjjblgmokmalaaaDoorLa8
import Derived.ProofKit
import Derived.LaidMore
import Derived.SevenTiedAt
import Derived.Test.YtjjblgmokmalaaaDoorLCoordinatesIn
namespace Go.Proofs.YtjjblgmokmalaaaDoor
open Go.ChangeShapes Go.WideShapes Go.ChangeAt Go.RowKit
open Go.ChangeMaps (open_string shut_string)
set_option linter.unusedVariables false

theorem door_metFnExactCoordinatesIn (os : Os) (args : Array Value) : laidMetH Tryd.prog Rows.fnExactCoordinatesInRow.laid ((World.doorLaid Tryd.prog 400 os).forCall (fun _ _ => 0) ⟨#[], args, []⟩).memory :=
  laidMetH_of_parts3 (fuel := 8) (laidMet_of_run' 8 (by kernel_rfl) (by kernel_rfl)) (by kernel_rfl) (by kernel_rfl)

set_option maxRecDepth 100000 in
theorem liftedFnExactCoordinatesIn (os : Os) (started : os.Started) (H : Type) (enc : TypeId × Value → H) :
    ReturnsInHanded {} Tryd.checked os 6 .any (fun w args => (Rows.fnExactCoordinatesInSpec.pre enc Tryd.prog Tryd.f6 Rows.fnExactCoordinatesInRow.domain false w args ∧ laidMetH Tryd.prog Rows.fnExactCoordinatesInRow.laid w) ∧ sizedMet enc Tryd.prog Tryd.f6 (OpenSpec.ofChange Rows.fnExactCoordinatesInSpec) false w args) (Rows.fnExactCoordinatesInSpec.post enc Tryd.prog Tryd.f6 false true false false) := by
  refine returnsInHanded_of_change_and (C := Tryd.checked) (X := fun w _ => laidMetH Tryd.prog Rows.fnExactCoordinatesInRow.laid w) (fun _ _ _ hh h => h.of_heap hh) own started (by kernel_rfl) Tryd.func6
    (ChangeSpec.witness_shaped (enc := enc) (C := Tryd.checked) (os := os) (X := fun w _ => laidMetH Tryd.prog Rows.fnExactCoordinatesInRow.laid w) false (World.doorLaid Tryd.prog 400 os) #[.agg #[.int .i64 0, .int .i64 0, .int .i64 0, .int .i64 0, .int .i64 0, .int .i64 0, .int .i64 0, .int .i64 0, .int .i64 0], .agg #[.int .i64 0, .int .i64 0, .int .i64 0]] 8 rfl (World.shaped_of_RefB (by kernel_rfl) (by kernel_rfl)) (by kernel_rfl) (by kernel_rfl) (by kernel_rfl) (door_metFnExactCoordinatesIn os _)) ?_
  intro W base args ds gs before hval0 hW hcnd hsz hL _
  obtain ⟨eF, eS, eC, hvF, hvS, hvC, hF, hS, hC, nS, nC⟩ : ∃ eF eS eC : Addr, W.var? Tryd.prog "loop.example/g01297/impl.errNoFraction" = some #[er eF] ∧ W.var? Tryd.prog "loop.example/g01297/impl.errNoSpot" = some #[er eS] ∧ W.var? Tryd.prog "loop.example/g01297/impl.errNoCone" = some #[er eC] ∧ EA W 3 eF ∧ EA W 0 eS ∧ EA W 1 eC ∧ eS ≠ eF ∧ eC ≠ eF := by
    rw [MakeChecks.laidMetH_plain _ _ _ (by kernel_rfl)] at hL
    exact ea_three gF tF gS tS gC tC hL
  have hval : ∀ (j : Nat) t v, Tryd.f6.params[j]? = some t → args[j]? = some v → Value.okWide Tryd.prog W .any base t v := hval0
  have hW' := hW
  obtain ⟨p, q, hA0, hV0, rfl, hfz, hnd⟩ := hW
  have hV : DataW.TrodVars enc Tryd.prog W (fun _ => true) ["loop.example/g01297/impl.errNoCone", "loop.example/g01297/impl.errNoSpot", "loop.example/g01297/impl.errNoFraction"] gs q := hV0
  have hA : DataW.TrodAll enc Tryd.prog W 0 (fun _ => true) true Tryd.f6.params.toList args.toList ds p := hA0
  rw [Tryd.params6] at hA hval
  obtain ⟨v0, vs0, d0, ds0, p0, q0, hargs, rfl, rfl, h0, r0⟩ := trodAll_cons hA
  obtain ⟨v1, vs1, d1, ds1, p1, q1, rfl, rfl, rfl, h1, r1⟩ := trodAll_cons r0
  obtain ⟨rfl, rfl, rfl⟩ := trodAll_nil r1
  obtain rfl : args = #[v0, v1] := by cases args; simp_all
  obtain ⟨rfl, rfl⟩ := hV.unique (vr3 enc gC tC gS tS gF tF hvC hvS hvF _)
  have k0 := h0
  have lt0 : ∀ x ∈ p0, x.block < W.heap.size := by obtain ⟨m, hm⟩ := k0; exact DataW.trod_lt m _ _ _ hm
  have k1 := h1
  have lt1 : ∀ x ∈ p1, x.block < W.heap.size := by obtain ⟨m, hm⟩ := k1; exact DataW.trod_lt m _ _ _ hm
  obtain ⟨a0_0, a0_1, a0_2, a0_3, a0_4, a0_5, a0_6, a0_7, a0_8, rfl, w0_0, w0_1, w0_2, w0_3, w0_4, w0_5, w0_6, w0_7, w0_8⟩ := open36 (hval 0 36 v0 rfl rfl) h0
  obtain ⟨a1_0, a1_1, a1_2, rfl, w1_0, w1_1, w1_2⟩ := open22 (hval 1 22 v1 rfl rfl) h1
  clear hA0 hV0 hval0
  refine (walkFnExactCoordinatesIn_at a0_0 a0_1 a0_2 a0_3 a0_4 a0_5 a0_6 a0_7 a0_8 a1_0 a1_1 a1_2 eF eS eC W hF hS hC nS nC).mono fun e W' ⟨he, bel⟩ => ?_
  subst he
  exact ⟨_, rfl, _, _, _, [], _, [.cell 1 0, .cell 0 0, .cell 3 0], hW', trodAll_mk1 (shut_bool Tryd.underlying4 _), (trodAll_cons_mk (Below.trod laidOut (by kernel_rfl) (of_decide_eq_true (by kernel_rfl)) k0 bel lt0) (trodAll_cons_mk (Below.trod laidOut (by kernel_rfl) (of_decide_eq_true (by kernel_rfl)) k1 bel lt1) trodAll_mk0)), vr3 enc gC tC gS tS gF tF (var_below bel gC hvC) (var_below bel gS hvS) (var_below bel gF hvF) _, bel.frame _, fun h => by cases h⟩

theorem overFnExactCoordinatesIn : Rows.fnExactCoordinatesInRow.holds Tryd.pinned (OpenSpec.ofChange Rows.fnExactCoordinatesInSpec) :=
  OpenClaim.holds_of_wide_leaving 6 Tryd.f6 rfl rfl rfl rfl rfl rfl rfl ⟨rfl, rfl, rfl, rfl, rfl⟩ rfl rfl rfl rfl rfl (by kernel_rfl) Tryd.func6 (by kernel_rfl)
    (of_decide_eq_true (by kernel_rfl)) (by unfold Func.isWrapper; first | (rw [if_pos (by decide +kernel)]; kernel_rfl) | (rw [if_neg (by decide +kernel)]; exact ⟨rfl, rfl⟩))
    (fun os started H enc _ => leaving_of_handed (liftedFnExactCoordinatesIn os started H enc))

theorem fnExactCoordinatesIn_holds : Rows.FnExactCoordinatesInCardSaid :=
  holds_tied_goes .later [.sentinel, .sentinel, .sentinel] true (true, "1b56f361397b29a549da91111dd4f3561f260202020cdcff8c1da88ba6bcc579") true
    overFnExactCoordinatesIn (by kernel_rfl) fnExactCoordinatesIn_row_tie rfl ⟨rfl, rfl⟩ (by kernel_rfl) rfl
    (fun f fn hf hfn => by
      obtain rfl : f = 6 := Option.some.inj ((show Tryd.prog.funcNamed Rows.fnExactCoordinatesInRow.func = some 6 by kernel_rfl).symm.trans hf) |>.symm
      obtain rfl : fn = Tryd.f6 := (Option.some.inj (Tryd.func6.symm.trans hfn)).symm
      exact ⟨by kernel_rfl, fun j t ht => by
        rw [Tryd.params6] at ht
        have hm : t ∈ [36, 22] := by simpa using Array.mem_of_getElem? ht
        have hall : ([36, 22].all fun u => !Tryd.prog.wantsStandIn u) = true := by kernel_rfl
        exact (show Tryd.prog.wantsStandIn t = false by simpa using List.all_eq_true.1 hall t hm)⟩)
    (by kernel_rfl)

#print axioms fnExactCoordinatesIn_holds
end Go.Proofs.YtjjblgmokmalaaaDoor
