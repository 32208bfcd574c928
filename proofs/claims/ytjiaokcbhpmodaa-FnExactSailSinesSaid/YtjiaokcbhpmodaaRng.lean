/-
  A range over a function whose iterator keeps numbers of its own in memory: the blocks that are the iterator's own are told by a set (own work).
-/
import Derived.RangeFuncNested
import Derived.RangeFuncBound
import Derived.RangeFuncCalls
import Derived.RangeFuncLeaves
import Derived.Shelf.Abstract
import Derived.Shelf.RegionOpen
import Derived.OwnWalkIn
import Derived.TacticsInMore
import Derived.LoopNIn
import Derived.LoopIn
import Derived.RangeFuncBox
import Derived.Maps.AppendAt
import Derived.Test.YtjiaokcbhpmodaaOwn
namespace Go.Proofs.Ytjiaokcbhpmodaa
open Go.ChangeShapes Go.WideShapes Go.ChangeAt Go.RowKit Go.Shelf
set_option linter.unusedVariables false
set_option linter.unusedSimpArgs false

/-- Nothing but blocks of G has turned, and new blocks have come. -/
def Turn (G : Nat → Prop) (W W' : World) : Prop :=
  (W'.os = W.os ∧ W'.tape = W.tape ∧ W'.output = W.output) ∧ W.heap.size ≤ W'.heap.size ∧ ∀ k, k < W.heap.size → ¬ G k → W'.heap[k]? = W.heap[k]?
theorem Turn.mono {G G' : Nat → Prop} {W W' : World} (h : Turn G W W') (hg : ∀ k, G k → G' k) : Turn G' W W' := ⟨h.1, h.2.1, fun k hk hn => h.2.2 k hk (fun hh => hn (hg k hh))⟩
theorem Turn.refl (G : Nat → Prop) (W : World) : Turn G W W := ⟨⟨rfl, rfl, rfl⟩, Nat.le_refl _, fun _ _ _ => rfl⟩
theorem Turn.trans {G : Nat → Prop} {A B C : World} (h : Turn G A B) (k : Turn G B C) : Turn G A C :=
  ⟨⟨k.1.1.trans h.1.1, k.1.2.1.trans h.1.2.1, k.1.2.2.trans h.1.2.2⟩, Nat.le_trans h.2.1 k.2.1, fun i hi hn => (k.2.2 i (Nat.lt_of_lt_of_le hi h.2.1) hn).trans (h.2.2 i hi hn)⟩
theorem Turn.below {G : Nat → Prop} {W W' : World} (h : Below W.heap.size W W') : Turn G W W' := ⟨⟨h.os, h.tape, h.output⟩, h.size, fun k hk _ => h.block k hk⟩
theorem Turn.grown {G : Nat → Prop} {W W' : World} {row : Option Nat} (h : W.grownBy W' row) (hr : ∀ k, row = some k → G k) : Turn G W W' :=
  ⟨⟨h.os, h.tape, h.output⟩, h.size, fun k hk hn => h.block k hk (fun e => hn (hr k e.symm))⟩
theorem Turn.put {G : Nat → Prop} (W : World) (l : Nat) (o : Obj) (hl : G l) : Turn G W (W.putObj l o) := Turn.grown (grownBy_putObj' W l o) (fun k e => by cases e; exact hl)
theorem Turn.set {G : Nat → Prop} (W : World) (p : Addr) (v : Value) (hl : G p.block) : Turn G W (W.setCell p v) :=
  ⟨⟨rfl, rfl, rfl⟩, by simp, fun k _ hn => Below.heap_setCell W p v k (fun e => hn (by rw [e]; exact hl))⟩
theorem Turn.to_below {G : Nat → Prop} {n : Nat} {w W W' : World} (hb : Below n w W) (h : Turn G W W') (hG : ∀ k, G k → n ≤ k) (hn : n ≤ W.heap.size) : Below n w W' :=
  ⟨h.1.1.trans hb.os, h.1.2.1.trans hb.tape, h.1.2.2.trans hb.output, Nat.le_trans hb.size h.2.1, fun k hk => (h.2.2 k (by omega) (fun hg => by have := hG k hg; omega)).trans (hb.block k hk)⟩
theorem own_turn {G : Nat → Prop} {W W' : World} {base : Nat} {e : TypeId} {size : Nat} {v : Value} {n : Nat} {xs : List Value} (h : W.ownsRow base e size v n xs) (ht : Turn G W W') (hv : ∀ k, v.ownBlock = some k → ¬ G k) : W'.ownsRow base e size v n xs := by
  refine ⟨h.1, ?_⟩
  rcases h.2 with h' | ⟨g, cap, cur, h1, h2, h3, h4⟩
  · exact .inl h'
  · exact .inr ⟨g, cap, cur, h1, h2, (ht.2.2 g (Array.getElem?_eq_some_iff.1 h3).1 (hv g (by rw [h1]; rfl))).trans h3, h4⟩

/-- A block of one point. -/
def Pb (W : World) (g : Nat) (p : Int × Int) : Prop := W.heap[g]? = some (.cells #[.int .i64 p.1, .int .i64 p.2] 24 (0, 0))
theorem Pb.lt {W : World} {g : Nat} {p : Int × Int} (h : Pb W g p) : g < W.heap.size := (Array.getElem?_eq_some_iff.1 h).1
theorem Pb.c0 {W : World} {g : Nat} {p : Int × Int} (h : Pb W g p) : W.cell? ⟨g, 0, none⟩ = some (.int .i64 p.1) := by simp [World.cell?, show W.heap[g]? = _ from h]
theorem Pb.c1 {W : World} {g : Nat} {p : Int × Int} (h : Pb W g p) : W.cell? ⟨g, 1, none⟩ = some (.int .i64 p.2) := by simp [World.cell?, show W.heap[g]? = _ from h]
theorem Pb.f0 {W : World} {g : Nat} {p : Int × Int} (h : Pb W g p) : W.frozen? ⟨g, 0, none⟩ = false := by simp [World.frozen?, show W.heap[g]? = _ from h]
theorem Pb.f1 {W : World} {g : Nat} {p : Int × Int} (h : Pb W g p) : W.frozen? ⟨g, 1, none⟩ = false := by simp [World.frozen?, show W.heap[g]? = _ from h]
theorem Pb.new (W : World) (x y : Int) : Pb (W.alloc (.cells #[.int .i64 x, .int .i64 y] 24)) W.heap.size (x, y) := World.alloc_heap_new W _
theorem Pb.same {W W' : World} {g : Nat} {p : Int × Int} (h : Pb W g p) (he : W'.heap[g]? = W.heap[g]?) : Pb W' g p := he.trans h
theorem Pb.below {W W' : World} {g : Nat} {p : Int × Int} (h : Pb W g p) (hb : Below W.heap.size W W') : Pb W' g p := (hb.block g h.lt).trans h
theorem set_heap {W : World} {g : Nat} {xs : Array Value} {t : TypeId} {fz : Nat × Nat} (h : W.heap[g]? = some (.cells xs t fz)) (o : Nat) (v : Value) : (W.setCell ⟨g, o, none⟩ v).heap[g]? = some (.cells (xs.setIfInBounds o v) t fz) := by
  obtain ⟨hlt, hk⟩ := Array.getElem?_eq_some_iff.1 h
  show (W.heap.modify g _)[g]? = _
  rw [Array.getElem?_eq_getElem (by rw [Array.size_modify]; exact hlt), Array.getElem_modify_self, hk]
  rfl
theorem Pb.set {W : World} {g : Nat} {p : Int × Int} (h : Pb W g p) (x y : Int) : Pb ((W.setCell ⟨g, 0, none⟩ (.int .i64 x)).setCell ⟨g, 1, none⟩ (.int .i64 y)) g (x, y) := by
  have h1 := set_heap h 0 (.int .i64 x)
  have h2 := set_heap h1 1 (.int .i64 y)
  exact h2
theorem Pb.far {W : World} {g : Nat} {p : Int × Int} (h : Pb W g p) (a : Addr) (v : Value) (hne : g ≠ a.block) : Pb (W.setCell a v) g p := (Below.heap_setCell W a v g hne).trans h

/-- How the body of a round may be left. -/
def postC {α : Type} (G : Nat → Prop) (I : (Nat → Prop) → List α → World → Prop) (Ix : Code → (Nat → Prop) → List α → World → Prop) (xs : List α) (W : World) : Exit → Act → World → Prop
  | .normal, _, W' => I G xs W' ∧ W.heap.size ≤ W'.heap.size ∧ ∀ k, G k → W'.heap[k]? = W.heap[k]?
  | .ret, _, W' => Ix .ret G xs W' ∧ W.heap.size ≤ W'.heap.size ∧ ∀ k, G k → W'.heap[k]? = W.heap[k]?
  | _, _, _ => False
def Sow (D : Nat) (G : Nat → Prop) (k : Nat) : Prop := G k ∨ k = D ∨ k = D + 1
set_option maxHeartbeats 1600000 in
theorem wp_rangeC {α : Type} {g : Operand} {ps : Array Tmp} {assign body : Code} {Q : Exit → Act → World → Prop} {a : Act} {w : World}
    {gf : Nat} {lb : Array Value} (hg : a.eval g = .func (.func gf) #[] lb) (eg : ∀ args w, (callFunc gf args).run Try.prog w = .ok (.enter gf args) w)
    (encs : α → Array Value) (hps : ∀ x, (encs x).size = ps.size) (full : List α) (G0 : Nat → Prop) (hG0 : ∀ k, G0 k → k < w.heap.size)
    (hseq : ∀ (l : Nat) (J : (Nat → Prop) → List α → World → Prop) (Jx : List α → World → Prop) (W : World), Below w.heap.size w W →
      (∀ G G' pre W1 W2, J G pre W1 → Turn G W1 W2 → (∀ k, G' k → G k ∨ (W1.heap.size ≤ k ∧ k < W2.heap.size)) → J G' pre W2) →
      (∀ G pre x W1, J G pre W1 → pre.length < full.length → YieldAt Fence.wide 4 Try.prog l (encs x) W1 fun e W' =>
        (e = .returned (.bool true) ∧ J G (pre ++ [x]) W' ∧ ∀ k, G k → W'.heap[k]? = W1.heap[k]?) ∨ (e = .returned (.bool false) ∧ Jx (pre ++ [x]) W')) →
      J G0 [] W →
      Calls Try.prog gf (#[.func (.yield l) #[] #[]] ++ lb) W fun e W' => (∃ v, e = .returned v) ∧ ((∃ G, J G full W') ∨ (∃ pre, pre.length ≤ full.length ∧ Jx pre W')))
    (I : (Nat → Prop) → List α → World → Prop) (Ix : Code → (Nat → Prop) → List α → World → Prop)
    (hI : ∀ G G' pre W1 W2, I G pre W1 → Turn G W1 W2 → (∀ k, G' k → G k ∨ (W1.heap.size ≤ k ∧ k < W2.heap.size)) → I G' pre W2)
    (hIx : ∀ c G pre W1 W2, Ix c G pre W1 → Turn G W1 W2 → Ix c G pre W2)
    (h0 : I G0 [] w) (Ax : Nat → α → Act → World → Prop) (hAx : ∀ x a' W o, Ax w.heap.size x a' W → w.heap.size + 1 < W.heap.size → Ax w.heap.size x a' (W.putObj (w.heap.size + 1) o))
    (hassign : ∀ (l : Nat) (G : Nat → Prop) (pre : List α) (x : α) (W : World) (K : Act → World → Prop), I G pre W → w.heap.size + 1 < W.heap.size → (∀ k, G k → k < W.heap.size) →
      (∀ a' W', I G pre W' → W.heap.size ≤ W'.heap.size → (∀ k, k < W.heap.size → W'.heap[k]? = W.heap[k]?) → Ax w.heap.size x a' W' → K a' W') →
      assign.wpIn (Fence.wide.inRound l) 4 Try.prog (Exit.then K (fun _ _ _ => False)) { tmps := (ps.zip (encs x)).foldl (fun t (p, v) => t.setIfInBounds p v) a.tmps, defers := [] } W)
    (hbody : ∀ (l : Nat) (G : Nat → Prop) (pre : List α) (x : α) (a' : Act) (W : World), I G pre W → Ax w.heap.size x a' W → (∀ k, G k → k < W.heap.size) → pre.length < full.length → body.wpIn (Fence.wide.inRound l) 4 Try.prog (postC G I Ix (pre ++ [x]) W) a' W)
    (hdone : ∀ (G : Nat → Prop) (W : World), I G full W → G w.heap.size → W.heap[w.heap.size]? = some (.deferred (some [])) → Q .normal { a with defers := { target := .collected w.heap.size, args := #[] } :: a.defers } W)
    (hstop : ∀ (c : Code) (G : Nat → Prop) (pre : List α) (W : World), pre.length ≤ full.length → Ix c G pre W → G w.heap.size → W.heap[w.heap.size]? = some (.deferred (some [])) → c.wp Try.prog Q { a with defers := { target := .collected w.heap.size, args := #[] } :: a.defers } W)
    (hbnd : ∀ G pre W, I G pre W → ∀ k, G k → k < W.heap.size) :
    (Code.rangeFunc g ps assign body).wp Try.prog Q a w := by
  refine (wpIn_wide (n := 6)).1 ?_
  refine wpIn_rangeFunc ?_
  intro fn hfn
  rw [show Fence.wide.round = none from rfl]
  obtain ⟨D, hD⟩ : ∃ D, w.heap.size = D := ⟨_, rfl⟩
  rw [hD] at hdone hstop
  obtain ⟨rec, hrec⟩ : ∃ rec : LoopState → Option Code → Loop, rec = fun st pe => { state := st, pending := pe, fn, tmps := a.tmps, params := ps, assign, body, defers := D } := ⟨_, rfl⟩
  obtain ⟨W1, hW1⟩ : ∃ W1, (w.alloc (.deferred (some []))).alloc (.loop (rec .ready none)) = W1 := ⟨_, rfl⟩
  have hL1 : W1.heap[D + 1]? = some (.loop (rec .ready none)) := by
    rw [← hW1]; have := World.alloc_heap_new (w.alloc (.deferred (some []))) (.loop (rec .ready none)); rw [World.size_alloc, hD] at this; exact this
  have hK1 : W1.heap[D]? = some (.deferred (some [])) := by
    rw [← hW1]; exact (Below.heap_alloc _ _ _ (by simp; omega)).trans (by rw [← hD]; exact World.alloc_heap_new w _)
  have hs1 : W1.heap.size = D + 2 := by rw [← hW1]; simp; omega
  have hb1 : Below w.heap.size w W1 := by
    rw [← hW1]; exact ((Below.refl _ w).alloc (Nat.le_refl _) _).alloc (by simp) _
  refine ⟨D + 1, [{ target := .collected D, args := #[] }], W1, { target := .fn (.func gf) lb, args := #[.func (.yield (D + 1)) #[] #[]] }, W1, gf,
    #[.func (.yield (D + 1)) #[] #[]] ++ lb, W1, ?_, ?_, ?_, ?_, fun _ => by omega, ?_⟩
  · rw [← hW1, hrec, ← hD]; exact run_enterLoop_outer _ _ _ _ _
  · simp only [resolve, hg]
    simp [go_sem]
  · intro f' hf'; trivial
  · simp [invoke, go_sem, eg]
  refine callsIn_wide.2 ?_
  refine (hseq (D + 1)
    (fun G pre W => I (Sow D G) pre W ∧ W.heap[D + 1]? = some (.loop (rec .ready none)) ∧ W.heap[D]? = some (.deferred (some [])) ∧ ¬ G D ∧ ¬ G (D + 1))
    (fun pre W => ∃ c G, Ix c (Sow D G) pre W ∧ W.heap[D + 1]? = some (.loop (rec .done (some c))) ∧ W.heap[D]? = some (.deferred (some [])))
    W1 hb1 ?jrule ?round ?start).mono ?behind
  case jrule =>
    rintro G G' pre A B ⟨hi, hl, hk, n1, n2⟩ ht hgg
    have hlA := (Array.getElem?_eq_some_iff.1 hl).1
    refine ⟨hI _ _ _ _ _ hi (ht.mono fun k hk => Or.inl hk) ?_, (ht.2.2 _ hlA n2).trans hl, (ht.2.2 _ (by omega) n1).trans hk, ?_, ?_⟩
    · rintro k (h | h)
      · rcases hgg k h with h | h
        · exact .inl (.inl h)
        · exact .inr h
      · exact .inl (.inr h)
    · intro h
      rcases hgg _ h with h | h
      · exact n1 h
      · omega
    · intro h
      rcases hgg _ h with h | h
      · exact n2 h
      · omega
  case start =>
    refine ⟨hI _ _ _ _ _ h0 (Turn.below hb1) ?_, hL1, hK1, fun h => by have := hG0 _ h; omega, fun h => by have := hG0 _ h; omega⟩
    rintro k (h | h)
    · exact .inl h
    · right; omega
  case round =>
    rintro G pre x W ⟨hi, hl, hk, n1, n2⟩ hlen
    have hlt : D + 1 < W.heap.size := (Array.getElem?_eq_some_iff.1 hl).1
    have hy := run_yield (P := Try.prog) (args := encs x) hl (by rw [hrec]; exact hps x)
    rw [hrec] at hy
    refine ⟨fn, _, assign, body, hy, roundIn_of_wpIn hfn (hassign _ (Sow D G) pre x W _ hi (by omega) (hbnd _ _ _ hi) ?_)⟩
    clear hy
    intro a' Wa hia hsa hsame hax
    have hla := (hsame _ (by omega)).trans hl
    have hka := (hsame _ (by omega)).trans hk
    refine ⟨_, run_beginRound hla (by rw [hrec]), ?_⟩
    obtain ⟨Wb, hWb⟩ : ∃ Wb, Wa.putObj (D + 1) (.loop { rec .ready none with state := .busy }) = Wb := ⟨_, rfl⟩
    rw [hWb]
    have htb : Turn (Sow D G) Wa Wb := by rw [← hWb]; exact Turn.put _ _ _ (.inr (.inr rfl))
    have hib : I (Sow D G) pre Wb := hI _ _ _ _ _ hia htb (fun k h => .inl h)
    have haxb : Ax w.heap.size x a' Wb := by
      rw [← hWb, ← hD]; exact hAx _ _ _ _ hax (by omega)
    have hlb : Wb.heap[D + 1]? = some (.loop { rec .ready none with state := .busy }) := by rw [← hWb]; exact World.putObj_heap_same (by omega)
    have hkb : Wb.heap[D]? = some (.deferred (some [])) := by rw [← hWb]; exact (World.putObj_heap_other (by omega)).trans hka
    have hsb : Wb.heap.size = Wa.heap.size := by rw [← hWb]; simp [World.putObj]
    have hoth : ∀ k, k ≠ D + 1 → Wb.heap[k]? = Wa.heap[k]? := fun k hk => by rw [← hWb]; exact World.putObj_heap_other hk
    refine wpIn_mono (hbody _ (Sow D G) pre x a' Wb hib haxb (hbnd _ _ _ hib) hlen) ?_
    have fin : ∀ (jump : Option Code) (W3 : World), (∀ k, Sow D G k → W3.heap[k]? = Wb.heap[k]?) → Wb.heap.size ≤ W3.heap.size →
        (Instr.endRound (D + 1) jump).run Try.prog W3 = .ok (.bool jump.isNone) (W3.putObj (D + 1) (.loop (rec (if jump.isNone then .ready else .done) jump))) ∧
        (W3.putObj (D + 1) (.loop (rec (if jump.isNone then .ready else .done) jump))).heap[D + 1]? = some (.loop (rec (if jump.isNone then .ready else .done) jump)) ∧
        (W3.putObj (D + 1) (.loop (rec (if jump.isNone then .ready else .done) jump))).heap[D]? = some (.deferred (some [])) ∧
        (∀ k, G k → (W3.putObj (D + 1) (.loop (rec (if jump.isNone then .ready else .done) jump))).heap[k]? = W.heap[k]?) := fun jump W3 hs3 hz3 => by
      have hl3 := (hs3 (D + 1) (.inr (.inr rfl))).trans hlb
      have hk3 := (hs3 D (.inr (.inl rfl))).trans hkb
      have := run_endRound (P := Try.prog) jump hl3
      rw [hrec] at this ⊢
      refine ⟨this, World.putObj_heap_same (Array.getElem?_eq_some_iff.1 hl3).1, (World.putObj_heap_other (by omega)).trans hk3, fun k hgk => ?_⟩
      have hkne : k ≠ D + 1 := fun e => n2 (e ▸ hgk)
      have hkl : k < W.heap.size := hbnd _ _ _ hi k (.inl hgk)
      exact (World.putObj_heap_other hkne).trans ((hs3 k (.inl hgk)).trans ((hoth k hkne).trans (hsame k hkl)))
    rintro e a3 W3 hp
    cases e with
    | normal =>
      obtain ⟨hi3, hz3, hs3⟩ := hp
      obtain ⟨hr, hl4, hk4, hg4⟩ := fin none W3 hs3 hz3
      exact ⟨_, _, hr, .inl ⟨rfl, ⟨hI _ _ _ _ _ hi3 (Turn.put _ _ _ (.inr (.inr rfl))) (fun k h => .inl h), hl4, hk4, n1, n2⟩, hg4⟩⟩
    | ret =>
      obtain ⟨hi3, hz3, hs3⟩ := hp
      obtain ⟨hr, hl4, hk4, hg4⟩ := fin (some .ret) W3 hs3 hz3
      exact ⟨_, _, hr, .inr ⟨rfl, .ret, G, hIx _ _ _ _ _ hi3 (Turn.put _ _ _ (.inr (.inr rfl))), hl4, hk4⟩⟩
    | exit id => exact hp.elim
    | goto t => exact hp.elim
    | panic ch => exact hp.elim
    | outgrown => exact hp.elim
  case behind =>
    rintro e W2 ⟨⟨v, rfl⟩, (⟨G, hi, hl, hk, n1, n2⟩ | ⟨pre, hpl, c, G, hi, hl, hk⟩)⟩
    · exact ⟨none, _, by have := run_endLoop (P := Try.prog) hl (by rw [hrec]; simp); rw [hrec] at this; exact this, hdone (Sow D G) _ (hI _ _ _ _ _ hi (Turn.put _ _ _ (.inr (.inr rfl))) (fun k h => .inl h)) (.inr (.inl rfl)) ((World.putObj_heap_other (by omega)).trans hk)⟩
    · exact ⟨some c, _, by have := run_endLoop (P := Try.prog) hl (by rw [hrec]; simp); rw [hrec] at this; exact this, wpIn_wide.2 (hstop c (Sow D G) pre _ hpl (hIx _ _ _ _ _ hi (Turn.put _ _ _ (.inr (.inr rfl)))) (.inr (.inl rfl)) ((World.putObj_heap_other (by omega)).trans hk))⟩
end Go.Proofs.Ytjiaokcbhpmodaa
