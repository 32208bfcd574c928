/-
  What the listed error variables of chapter 8 give a walk, how they read behind a call, and the tied card of a row whose program starts goroutines elsewhere (own work).
-/
import Derived.Test.YtjjblgmokmalaaaDoorEr8
import Derived.Test.YtjjblgmokmalaaaDoorCards
import Derived.Stop.LaidTwo
import Derived.MakeChecks
import Derived.SevenTiedAt
import Derived.Conc.LeavingOf
import Derived.Leaving
namespace Go.Proofs.YtjjblgmokmalaaaDoor
open Go.ChangeShapes Go.WideShapes Go.ChangeAt Go.RowKit
set_option linter.unusedVariables false
set_option maxRecDepth 100000
set_option linter.unusedSimpArgs false
set_option maxRecDepth 100000

theorem cellsE : Tryd.prog.cellsOf 186 = 1 := by kernel_rfl
theorem cellsStr : Tryd.prog.cellsOf 9 = 1 := by kernel_rfl
theorem starE : "*" ++ "errors.errorString" = "*errors.errorString" := by decide
theorem rowE (u : TypeId) (h : Tryd.prog.typeName? 3 u = some "*errors.errorString") : u = 161 :=
  typeName_ptr_named (nm := "errors.errorString") (by rw [starE]; kernel_rfl) (by kernel_rfl) (by decide) u (by rw [starE]; exact h)
/-- The first two of the list: each a variable with an error of its own. -/
theorem ea_two {W : World} {n0 n1 : String} {g0 g1 : Nat} {text0 text1 : List UInt8} {r : List (String × DataW Unit)}
    (hg0 : Tryd.prog.globalNamed n0 = some g0) (ht0 : (Tryd.prog.globals[g0]?).map (·.type) = some 93) (hg1 : Tryd.prog.globalNamed n1 = some g1) (ht1 : (Tryd.prog.globals[g1]?).map (·.type) = some 93)
    (h : laidMet Tryd.prog ((n0, .iface "*errors.errorString" (.ptr (.agg [.lit (.string text0)]))) :: (n1, .iface "*errors.errorString" (.ptr (.agg [.lit (.string text1)]))) :: r) W) :
    ∃ a0 a1 : Addr, W.var? Tryd.prog n0 = some #[er a0] ∧ W.var? Tryd.prog n1 = some #[er a1] ∧ EA W g0 a0 ∧ EA W g1 a1 ∧ a1 ≠ a0 := by
  obtain ⟨a0, a1, s0, s1, c0, c1, t0, t1, hv0, hv1, hc0, hs0, hz0, hc1, hs1, hz1, hne, hb0, hb1⟩ := laid_sentinels2 h hg0 ht0 hg1 ht1 Tryd.underlying93 rowE Tryd.underlying161 Tryd.underlying186 rfl rfl Tryd.underlying9 cellsE cellsStr
  have k0 : W.cell? ⟨g0, 0, none⟩ = some (er a0) := by simpa using World.var?_cell hg0 hv0 0
  have k1 : W.cell? ⟨g1, 0, none⟩ = some (er a1) := by simpa using World.var?_cell hg1 hv1 0
  exact ⟨a0, a1, hv0, hv1, ⟨k0, c0, t0, hb0⟩, ⟨k1, c1, t1, hb1⟩, fun h => hne h.symm⟩
/-- A list without its second entry. -/
theorem laid_skip {P : Program} {x y : String × DataW Unit} {r : List (String × DataW Unit)} {W : World} (h : laidMet P (x :: y :: r) W) : laidMet P (x :: r) W := by
  obtain ⟨n0, d0⟩ := x
  obtain ⟨n1, d1⟩ := y
  obtain ⟨ps, ⟨g0, t0, cs0, f0, p0, q0, hg0, ht0, hv0, hd0, ⟨g1, t1, cs1, f1, p1, q1, hg1, ht1, hv1, hd1, hr, e1⟩, e0⟩, hnd, hrows⟩ := h
  subst e1
  subst e0
  refine ⟨_, ⟨g0, t0, cs0, f0, p0, q1, hg0, ht0, hv0, hd0, hr, rfl⟩, ?_, ?_⟩
  · exact List.Nodup.sublist (List.Sublist.append (List.Sublist.refl _) (List.sublist_append_right _ _)) hnd
  · intro b off hm
    refine hrows b off ?_
    rcases List.mem_append.1 hm with h | h
    · exact List.mem_append_left _ h
    · exact List.mem_append_right _ (List.mem_append_right _ h)
theorem ea_three {W : World} {n0 n1 n2 : String} {g0 g1 g2 : Nat} {text0 text1 text2 : List UInt8} {r : List (String × DataW Unit)}
    (hg0 : Tryd.prog.globalNamed n0 = some g0) (ht0 : (Tryd.prog.globals[g0]?).map (·.type) = some 93) (hg1 : Tryd.prog.globalNamed n1 = some g1) (ht1 : (Tryd.prog.globals[g1]?).map (·.type) = some 93) (hg2 : Tryd.prog.globalNamed n2 = some g2) (ht2 : (Tryd.prog.globals[g2]?).map (·.type) = some 93)
    (h : laidMet Tryd.prog ((n0, .iface "*errors.errorString" (.ptr (.agg [.lit (.string text0)]))) :: (n1, .iface "*errors.errorString" (.ptr (.agg [.lit (.string text1)]))) :: (n2, .iface "*errors.errorString" (.ptr (.agg [.lit (.string text2)]))) :: r) W) :
    ∃ a0 a1 a2 : Addr, W.var? Tryd.prog n0 = some #[er a0] ∧ W.var? Tryd.prog n1 = some #[er a1] ∧ W.var? Tryd.prog n2 = some #[er a2] ∧ EA W g0 a0 ∧ EA W g1 a1 ∧ EA W g2 a2 ∧ a1 ≠ a0 ∧ a2 ≠ a0 := by
  obtain ⟨a0, a1, v0, v1, e0, e1, n10⟩ := ea_two hg0 ht0 hg1 ht1 h
  obtain ⟨b0, b2, w0, w2, f0, f2, n20⟩ := ea_two hg0 ht0 hg2 ht2 (laid_skip h)
  have hb : b0 = a0 := by
    have := v0.symm.trans w0
    simp only [Option.some.injEq] at this
    simpa using this.symm
  subst hb
  exact ⟨b0, a1, b2, v0, v1, w2, e0, e1, f2, n10, n20⟩
theorem var_below {W W' : World} (hb : Below W.heap.size W W') {n : String} {g : Nat} {cs : Array Value} (hg : Tryd.prog.globalNamed n = some g) (h : W.var? Tryd.prog n = some cs) : W'.var? Tryd.prog n = some cs := by
  unfold World.var? at h ⊢
  simp only [hg, Option.bind_some] at h ⊢
  have hlt : g < W.heap.size := by
    rcases Nat.lt_or_ge g W.heap.size with h' | h'
    · exact h'
    · simp [Array.getElem?_eq_none h'] at h
  rw [hb.block g hlt]
  exact h
theorem vr2 {H : Type} (enc : TypeId × Value → H) {X : World} {n0 n1 : String} {g0 g1 : Nat} {a0 a1 : Addr}
    (hg0 : Tryd.prog.globalNamed n0 = some g0) (ht0 : (Tryd.prog.globals[g0]?).map (·.type) = some 93) (hg1 : Tryd.prog.globalNamed n1 = some g1) (ht1 : (Tryd.prog.globals[g1]?).map (·.type) = some 93)
    (x0 : X.var? Tryd.prog n0 = some #[er a0]) (x1 : X.var? Tryd.prog n1 = some #[er a1]) (sp : Nat → Bool) :
    DataW.TrodVars enc Tryd.prog X sp [n0, n1] [tok enc (er a0), tok enc (er a1)] [.cell g0 0, .cell g1 0] :=
  vars_read2 enc hg0 ht0 Tryd.underlying93 x0 trivial hg1 ht1 Tryd.underlying93 x1 trivial sp
theorem vr3 {H : Type} (enc : TypeId × Value → H) {X : World} {n0 n1 n2 : String} {g0 g1 g2 : Nat} {a0 a1 a2 : Addr}
    (hg0 : Tryd.prog.globalNamed n0 = some g0) (ht0 : (Tryd.prog.globals[g0]?).map (·.type) = some 93) (hg1 : Tryd.prog.globalNamed n1 = some g1) (ht1 : (Tryd.prog.globals[g1]?).map (·.type) = some 93) (hg2 : Tryd.prog.globalNamed n2 = some g2) (ht2 : (Tryd.prog.globals[g2]?).map (·.type) = some 93)
    (x0 : X.var? Tryd.prog n0 = some #[er a0]) (x1 : X.var? Tryd.prog n1 = some #[er a1]) (x2 : X.var? Tryd.prog n2 = some #[er a2]) (sp : Nat → Bool) :
    DataW.TrodVars enc Tryd.prog X sp [n0, n1, n2] [tok enc (er a0), tok enc (er a1), tok enc (er a2)] [.cell g0 0, .cell g1 0, .cell g2 0] :=
  ⟨g0, 93, #[er a0], 1, [], [.cell g1 0, .cell g2 0], hg0, ht0, x0, trod_held Tryd.underlying93 (show IsIface (er a0) from trivial) 0, vars_read2 enc hg1 ht1 Tryd.underlying93 x1 trivial hg2 ht2 Tryd.underlying93 x2 trivial sp, rfl⟩
theorem gS : Tryd.prog.globalNamed "loop.example/g01297/impl.errNoSpot" = some 0 := by kernel_rfl
theorem gC : Tryd.prog.globalNamed "loop.example/g01297/impl.errNoCone" = some 1 := by kernel_rfl
theorem gT : Tryd.prog.globalNamed "loop.example/g01297/impl.errNoTetra" = some 2 := by kernel_rfl
theorem gF : Tryd.prog.globalNamed "loop.example/g01297/impl.errNoFraction" = some 3 := by kernel_rfl
theorem tS : (Tryd.prog.globals[0]?).map (·.type) = some 93 := by kernel_rfl
theorem tC : (Tryd.prog.globals[1]?).map (·.type) = some 93 := by kernel_rfl
theorem tT : (Tryd.prog.globals[2]?).map (·.type) = some 93 := by kernel_rfl
theorem tF : (Tryd.prog.globals[3]?).map (·.type) = some 93 := by kernel_rfl
/-- What a call of one goroutine returns, said of a row that lets others leave. -/
theorem leaving_of_handed {a : Assume} {C : Checked} {os : Os} {f : FuncId} {r : Reach} {Pre : World → Array Value → Prop} {Post : World → Array Value → Value → World → Prop} (h : ReturnsInHanded a C os f r Pre Post) : ReturnsInLeavingWide a C os f r Pre Post :=
  fun e => ReturnsInOpen.mono (fun _ _ _ x => ⟨x.2.1, onlyLeaving_of_quiet x.1, x.2.2⟩) (fun _ x => x) (h e)
/-- A tied card of a row whose program can start goroutines. -/
theorem holds_tied_goes (Lk : Looks) {p : Pinned} {s : OpenSpec} {c : OpenClaim} (kinds : List LaidKind) (tests : Bool) (har : Bool × String) (lk : Bool)
    (hc : c.holds p s) (hw : c.wfByText s = true) (htie : c.laidByTextAt Lk p kinds tests)
    (hst : c.start = .entering) (hnb : c.noBlocks = false ∧ c.again = false) (hm : p.checked.prog.mainIs = some (har.1, har.2.toList)) (hn : (!har.1 && har.2.isEmpty && !lk) = false)
    (hl : ∀ f fn, p.checked.prog.funcNamed c.func = some f → p.checked.prog.funcs[f]? = some fn → lk = p.checked.prog.looks [] ∧ ∀ (j : Nat) t, fn.params[j]? = some t → p.checked.prog.wantsStandIn t = false)
    (hg : true = c.goesBy p.checked.prog) :
    Claim7.holds p (.plain s) { stood := { row := c, standIns := [], harness := har, looks := lk }, kinds := [], alts := [], goes := true, laidByText := true, laidKinds := kinds, laidTests := tests, laidLooks := Lk } := by
  have h6 : Claim7.isSixth { stood := { row := c, standIns := [], harness := har, looks := lk }, kinds := [] } = false := by simpa [Claim7.isSixth] using hn
  exact ⟨Claim7.tied_new_at Lk kinds tests (Claim7.new_of_sixth hc har lk hst hnb hm h6 hl) hw, fun D hD => (by cases hD), htie, (fun h => by cases h), hg⟩
end Go.Proofs.YtjjblgmokmalaaaDoor
