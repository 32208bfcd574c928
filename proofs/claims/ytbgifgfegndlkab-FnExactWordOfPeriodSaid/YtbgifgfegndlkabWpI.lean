/-
  impl.WordOfPeriod where the numbers are runs, over the contracts of the library (own work).
-/
import Derived.Test.YtbgifgfegndlkabWpJ
import Derived.Test.YtbgifgfegndlkabBld
namespace Go.Proofs.Ytbgifgfegndlkab
open Go.ChangeShapes Go.WideShapes Go.ChangeAt Go.RowKit Go.Shelf
set_option linter.unusedVariables false
set_option linter.unusedSimpArgs false
attribute [local go_sem] Oper.semAt_some

theorem bld_own {T e : TypeId} {B b : Nat} {bs : List Value} {W W' : World} {row : Option Nat} (h : Lib.IsBuilder T e B b bs W) (hg : W.grownBy W' row) (hr : ∀ r, row = some r → ∃ o : Obj, W.heap[r]? = some o ∧ o.isCells = false) : Lib.IsBuilder T e B b bs W' := by
  have go : ∀ p, Lib.BuilderAt T e B b p bs W → Lib.BuilderAt T e B b p bs W' := by
    rintro p ⟨hB, v, hb, hown, hne⟩
    refine ⟨hB, v, (grownBy_keeps_cells hg hr hb rfl).trans hb, hown.kept hg ?_, hne⟩
    rcases hown.2 with ⟨hv, _⟩ | ⟨g, cap, cur, hv, _, hgg, _⟩
    · left; rw [hv]; rfl
    · right
      rw [hv]
      intro e2
      obtain ⟨o, ho, hc⟩ := hr g (by simpa [Value.ownBlock] using e2.symm)
      rw [hgg] at ho
      cases ho
      cases hc
  rcases h with h | h
  · exact .inl (go _ h)
  · exact .inr (go _ h)
theorem bld_below {T e : TypeId} {B b : Nat} {bs : List Value} {W W' : World} (h : Lib.IsBuilder T e B b bs W) (hb : Below W.heap.size W W') : Lib.IsBuilder T e B b bs W' := by
  have go : ∀ p, Lib.BuilderAt T e B b p bs W → Lib.BuilderAt T e B b p bs W' := by
    rintro p ⟨hB, v, hbk, hown, hne⟩
    exact ⟨hB, v, (hb.block b (Array.getElem?_eq_some_iff.1 hbk).1).trans hbk, own_below hown hb, hne⟩
  rcases h with h | h
  · exact .inl (go _ h)
  · exact .inr (go _ h)
theorem keepsOthers_of_below {W W' : World} (h : Below W.heap.size W W') : KeepsOthers W W' := ⟨h.size, fun k o hk _ => (h.block k (Array.getElem?_eq_some_iff.1 hk).1).trans hk⟩
/-- The two cells of the iterator. -/
def Two (Ba Bb g n cap : Nat) (W : World) : Prop := W.heap[Ba]? = some (.cells #[.slice (some ⟨g, 0, none⟩) n cap] 22 (0, 0)) ∧ W.heap[Bb]? = some (.cells #[.int .i64 2] 3 (0, 0))
theorem Two.keeps {Ba Bb g n cap b : Nat} {W W' : World} (h : Two Ba Bb g n cap W) (k : KeepsT b W W') (hA : Ba ≠ b) (hB : Bb ≠ b) : Two Ba Bb g n cap W' :=
  ⟨(k _ _ _ _ h.1 (by decide) hA).trans h.1, (k _ _ _ _ h.2 (by decide) hB).trans h.2⟩
theorem Two.kpc {Ba Bb g n cap b : Nat} {W W' : World} (h : Two Ba Bb g n cap W) (k : KeepsT b W W') (hA : Ba ≠ b) (hB : Bb ≠ b) : KpC Ba Bb W W' :=
  ⟨k _ _ _ _ h.1 (by decide) hA, k _ _ _ _ h.2 (by decide) hB⟩
theorem Two.own {Ba Bb g n cap : Nat} {W W' : World} {row : Option Nat} (h : Two Ba Bb g n cap W) (hg : W.grownBy W' row) (hr : ∀ r, row = some r → ∃ o : Obj, W.heap[r]? = some o ∧ o.isCells = false) : Two Ba Bb g n cap W' :=
  ⟨(grownBy_keeps_cells hg hr h.1 rfl).trans h.1, (grownBy_keeps_cells hg hr h.2 rfl).trans h.2⟩
/-- What the range keeps. -/
def InvW (B g m n cap : Nat) (xs : List Int) (pre : List (Fin m)) (W : World) : Prop :=
  Lib.IsBuilder 33 5 B B (Lib.byteCells (prW xs m pre)) W ∧ (prW xs m pre).length ≤ 400 * pre.length ∧ Two (B + 1) (B + 1 + 1) g n cap W
set_option maxRecDepth 100000 in
set_option maxHeartbeats 4000000 in
theorem wp_yes_any (g cap m n : Nat) (xs : List Int) (w : World) (hn : xs.length = n) (hm : n = m * 2) (hok : rOk 200 xs = true) (h1 : 1 ≤ m) (hcap : n ≤ cap) (hcap2 : cap ≤ 9223372036854775807) (hg : g < w.heap.size)
    (hc : ∀ j, j < n → w.cell? ⟨g, j, none⟩ = some (.int .i64 (xs.getD j 0)))
    (hRep : ∀ (c : UInt8) (k : Int) w, 0 ≤ k → k ≤ 200 → Calls Try.prog 12 #[.string ⟨#[c]⟩, .int .i64 k] w fun e w' => e = .returned (.string ⟨(List.replicate k.toNat c).toArray⟩) ∧ Below w.heap.size w w')
    (hWr : ∀ (B b : Nat) (l s : List UInt8) (w : World), Lib.IsBuilder 33 5 B b (Lib.byteCells l) w → l.length + s.length ≤ 1048576 → B ≤ w.heap.size →
      Calls Try.prog 11 #[.pointer (some ⟨b, 0, none⟩), .string ⟨s.toArray⟩] w fun e w' => e = .returned (.tuple #[.int .i64 s.length, .nilIface]) ∧ Lib.IsBuilder 33 5 B b (Lib.byteCells (l ++ s)) w' ∧ Below B w w' ∧ KeepsOthers w w' ∧ KeepsT b w w')
    (hStr : ∀ (B b : Nat) (l : List UInt8) (w : World), Lib.IsBuilder 33 5 B b (Lib.byteCells l) w → B ≤ w.heap.size →
      Calls Try.prog 13 #[.pointer (some ⟨b, 0, none⟩)] w fun e w' => e = .returned (.string ⟨l.toArray⟩) ∧ Below B w w' ∧ KeepsOthers w w') :
    Calls Try.prog 6 #[.slice (some ⟨g, 0, none⟩) n cap] w fun e w' => e = .returned (.tuple #[.string ⟨(wpL 0 xs).toArray⟩, .int .i64 0]) ∧ Below w.heap.size w w' := by
  have HAL := Lib.hid (rOk_all xs 200 (by omega) hok)
  have HLN := Lib.hid hn
  have hn200 : n ≤ 200 := by have := HAL.out.2; omega
  have HM := Lib.hid hm
  have HC := Lib.hid hc
  have HRep := Lib.hid hRep
  have HWr := Lib.hid hWr
  have HStr := Lib.hid hStr
  have HAR : Hid (Calls Try.prog 9 #[.slice (some ⟨g, 0, none⟩) n cap] w fun e w' => e = .returned (.bool true) ∧ w = w') := by
    have := areRuns_any (some ⟨g, 0, none⟩) cap xs w (fun _ => ⟨g, rfl, hg, fun j hj => hc j (by omega)⟩) (by omega)
    rw [hok, hn] at this
    exact this
  have hb0 : ((n : Int) == 0) = false := by simp; omega
  have htm : (n : Int).tmod 2 = 0 := by rw [Int.tmod_eq_emod_of_nonneg (by omega)]; omega
  have hn0 : 2 ≤ n := by omega
  clear hn hm hc hRep hWr hStr hok
  refine (callsIn_wide (n := 6)).1 ?_
  refine callsIn_of_wp_marks Try.func6 rfl trivial ?_ rfl
  simp only [Try.ntmps6, List.size_toArray, List.length_cons, List.length_nil, Nat.reduceAdd, Nat.reduceSub, Array.replicate_succ, Array.replicate_zero, List.push_toArray, List.append_toArray, List.nil_append, List.cons_append]
  gi_wp2_with (refine ⟨trivial, ?_⟩; gi_at_call 9; refine (callsIn_wide.2 HAR.out).mono ?_; rintro e wn ⟨rfl, rfl⟩)
  gi_wp2_with (refine ⟨trivial, ?_⟩; gi_at_call 10; refine (callsIn_wide.2 (chunk_any _ _ _ _)).mono ?_; rintro e wn ⟨rfl, rfl⟩)
  have HB : ∃ B, B = w.heap.size := ⟨_, rfl⟩
  refine wpIn_rangeFunc_ownG rfl (by omega) (gf := 14) (lb := #[.pointer (some ⟨w.heap.size + 1, 0, none⟩), .pointer (some ⟨w.heap.size + 1 + 1, 0, none⟩)]) rfl trivial (enters_of Try.func14 (by kernel_rfl) rfl)
    (chunk_stops _ (by omega) (w.heap.size + 1) (w.heap.size + 1 + 1) g m cap ?hmc hcap2 _ ?hBa ?hBb ?hcA ?hcB) kpc_t (kpc_b ?hBa1 ?hBb1) (Below.refl _ _) (fun _ => rfl)
    (fun pre W => InvW w.heap.size g m n cap xs pre W ∧ Below w.heap.size w W)
    (fun _ _ _ => False)
    (OwnFrom.and (Own.from (fun s A B row hs hg hr => ⟨bld_own hs.1 hg hr, hs.2.1, hs.2.2.own hg hr⟩) _) (ownFrom_below (Nat.le_refl _) (by simp; omega)))
    (fun _ _ _ _ _ hs _ _ => hs)
    ?h0
    (fun x => { tmps := #[.slice (some ⟨g, 0, none⟩) n cap, undef, .string ⟨#[]⟩, .int .i64 0, .pointer (some ⟨w.heap.size, 0, none⟩), .slice (some ⟨g, x.val * 2, none⟩) 2 2, .slice (some ⟨g, 0, none⟩) n cap, .int .i64 n, .bool false, .bool false, .slice (some ⟨g, 0, none⟩) n cap, .int .i64 n, .int .i64 0, .bool false, .bool false, .bool false, .slice (some ⟨g, 0, none⟩) n cap, .bool true, .bool false, .bool false, .slice (some ⟨g, 0, none⟩) n cap,
      .func (.func 14) #[] #[.pointer (some ⟨w.heap.size + 1, 0, none⟩), .pointer (some ⟨w.heap.size + 1 + 1, 0, none⟩)], .slice (some ⟨g, x.val * 2, none⟩) 2 2, undef, undef, undef, undef, undef, undef, undef, undef, undef, undef, undef], defers := [] }) ?assign ?body ?done ?stop
  case hmc => have := HM.out; omega
  case hBa => simp
  case hBb => simp
  case hcA => rw [← HM.out]; go_cell
  case hcB => go_cell
  case hBa1 => simp
  case hBb1 => simp
  case h0 =>
    refine ⟨⟨?_, by rw [prW_nil]; simp, ?_, ?_⟩, ?_⟩
    · rw [prW_nil]
      exact bld_below (bld_below (Lib.fresh_isBuilder 33 5 w) (by (repeat' (first | (with_reducible exact Below.refl _ _) | (with_reducible refine Below.alloc ?_ ?_ _) | (with_reducible refine Below.setCell ?_ ?_ _) | (with_reducible refine Below.drew ?_) | (with_reducible refine below_drewN ?_ _) | (with_reducible assumption) | (with_reducible refine below_after (by with_reducible assumption) ?_) | go_size)))) (by (repeat' (first | (with_reducible exact Below.refl _ _) | (with_reducible refine Below.alloc ?_ ?_ _) | (with_reducible refine Below.setCell ?_ ?_ _) | (with_reducible refine Below.drew ?_) | (with_reducible refine below_drewN ?_ _) | (with_reducible assumption) | (with_reducible refine below_after (by with_reducible assumption) ?_) | go_size)))
    · rw [Below.heap_alloc _ _ _ (by simp)]
      have := World.alloc_heap_new (w.alloc (Obj.cells #[Value.pointer none, Value.slice none 0 0] 33)) (Obj.cells #[Value.slice (some ⟨g, 0, none⟩) n cap] 22)
      rwa [World.size_alloc] at this
    · have := World.alloc_heap_new ((w.alloc (Obj.cells #[Value.pointer none, Value.slice none 0 0] 33)).alloc (Obj.cells #[Value.slice (some ⟨g, 0, none⟩) n cap] 22)) (Obj.cells #[Value.int IntKind.i64 2] 3)
      rwa [World.size_alloc, World.size_alloc] at this
    · (repeat' (first | (with_reducible exact Below.refl _ _) | (with_reducible refine Below.alloc ?_ ?_ _) | (with_reducible refine Below.setCell ?_ ?_ _) | (with_reducible refine Below.drew ?_) | (with_reducible refine below_drewN ?_ _) | (with_reducible assumption) | (with_reducible refine below_after (by with_reducible assumption) ?_) | go_size))
  case assign =>
    intro l x W K hK
    unfold enC
    gi_wp2
    exact hK
  case body =>
    rintro l pre x W ⟨⟨hBld, hlen, hTwo⟩, hB⟩ hlt
    obtain ⟨X, hX⟩ := x
    have q := HM.out
    have hl := HLN.out
    have hN1 := HAL.out.1 (X * 2) (by omega)
    have hN2 := HAL.out.1 (X * 2 + 1) (by omega)
    have c0 := HC.out (X * 2) (by omega)
    have c1 := HC.out (X * 2 + 1) (by omega)
    have HS := Lib.hid (prW_snoc xs m pre ⟨X, hX⟩)
    obtain ⟨N1, hN1e⟩ : ∃ N, xs.getD (X * 2) 0 = N := ⟨_, rfl⟩
    obtain ⟨N2, hN2e⟩ : ∃ N, xs.getD (X * 2 + 1) 0 = N := ⟨_, rfl⟩
    rw [hN1e] at hN1 c0
    rw [hN2e] at hN2 c1
    have HS2 : Hid (prW xs m (pre ++ [⟨X, hX⟩]) = (prW xs m pre ++ List.replicate N1.toNat 82) ++ List.replicate N2.toNat 76) := by
      show _ = _
      rw [HS.out]; simp only [hN1e, hN2e]
    clear HS hN1e hN2e
    obtain ⟨P, hP⟩ : ∃ P, prW xs m pre = P := ⟨_, rfl⟩
    rw [hP] at HS2 hBld hlen
    clear hP
    have hpl : pre.length < 100 := by omega
    have e0 : W.cell? ⟨g, X * 2, none⟩ = some (.int .i64 N1) := (hB.cell (p := ⟨g, X * 2, none⟩) hg).trans c0
    have HC1 : Hid (∀ W, Below w.heap.size w W → W.cell? ⟨g, X * 2 + 1, none⟩ = some (.int .i64 N2)) := fun W hW => (hW.cell (p := ⟨g, X * 2 + 1, none⟩) hg).trans c1
    have HBl := Lib.hid hBld
    have HTw := Lib.hid hTwo
    have HBw := Lib.hid hB
    have hsB := hB.size
    obtain ⟨s1, hs1⟩ : ∃ s, List.replicate N1.toNat (82 : UInt8) = s := ⟨_, rfl⟩
    obtain ⟨s2, hs2⟩ : ∃ s, List.replicate N2.toNat (76 : UInt8) = s := ⟨_, rfl⟩
    have hl1 : s1.length ≤ 200 := by rw [← hs1, List.length_replicate]; omega
    have hl2 : s2.length ≤ 200 := by rw [← hs2, List.length_replicate]; omega
    have HR1 := Lib.hid (fun w => HRep.out 82 N1 w (by omega) (by omega))
    have HR2 := Lib.hid (fun w => HRep.out 76 N2 w (by omega) (by omega))
    rw [hs1] at HR1 HS2
    rw [hs2] at HR2 HS2
    clear c0 c1 hBld hTwo hB hs1 hs2 q hl hN1 hN2
    gi_wp2_with (refine ⟨trivial, ?_⟩; gi_at_call 12; refine (CallsIn.inRound l (callsIn_wide.2 (HR1.out _))).mono ?_; rintro e W1 ⟨rfl, b1⟩)
    have t1 : KeepsT w.heap.size W W1 := KeepsT.of_below b1
    have k1 := keepsOthers_of_below b1
    have bl1 := bld_below HBl.out b1
    have bw1 : Below w.heap.size w W1 := below_after b1 HBw.out
    have B1 := Lib.hid bw1
    have hs1 := bw1.size
    clear bw1
    gi_wp2_with (refine ⟨trivial, ?_⟩; gi_at_call 11; refine (CallsIn.inRound l (callsIn_wide.2 (HWr.out w.heap.size _ P s1 _ bl1 (by omega) hs1))).mono ?_; rintro e W2 ⟨rfl, bl2, b2, k2, t2⟩; have bw2 : Below w.heap.size w W2 := B1.out.trans b2; have e1 := HC1.out W2 bw2; have B2 := Lib.hid bw2; clear bw2 b2)
    gi_wp2_with (refine ⟨trivial, ?_⟩; gi_at_call 12; refine (CallsIn.inRound l (callsIn_wide.2 (HR2.out _))).mono ?_; rintro e W3 ⟨rfl, b3⟩)
    have t3 : KeepsT w.heap.size W2 W3 := KeepsT.of_below b3
    have k3 := keepsOthers_of_below b3
    have bl3 := bld_below bl2 b3
    have bw3 : Below w.heap.size w W3 := below_after b3 B2.out
    have hs3 := bw3.size
    have B3 := Lib.hid bw3
    clear bw3 bl2
    gi_wp2_with (refine ⟨trivial, ?_⟩; gi_at_call 11; refine (CallsIn.inRound l (callsIn_wide.2 (HWr.out w.heap.size _ (P ++ s1) s2 _ bl3 (by rw [List.length_append]; omega) hs3))).mono ?_; rintro e W4 ⟨rfl, bl4, b4, k4, t4⟩)
    have bw4 : Below w.heap.size w W4 := B3.out.trans b4
    have t := (((t1.trans t2).trans t3).trans t4)
    have k := (((k1.trans k2).trans k3).trans k4)
    gi_wp2
    refine ⟨k.from _, HTw.out.kpc t (by omega) (by omega), ⟨?_, ?_, HTw.out.keeps t (by omega) (by omega)⟩, bw4⟩
    · rw [HS2.out]; exact bl4
    · rw [HS2.out, List.length_append, List.length_append, List.length_append, List.length_singleton]; omega
  case done =>
    rintro D ys W hD hy ⟨⟨hBld, hlen, hTwo⟩, hB⟩ hK
    rw [prW_all xs m (by rw [HLN.out]; exact HM.out) ys hy] at hBld
    clear hlen hTwo hy
    gi_wp2_with (refine ⟨trivial, ?_⟩; gi_at_call 13; refine (callsIn_wide.2 (HStr.out _ _ _ _ hBld hB.size)).mono ?_; rintro e W1 ⟨rfl, b1, k1⟩)
    have hK1 := k1.same D _ hK rfl
    gi_wp2
    refine ⟨by simp, .inl ⟨_, _, rfl, run_takeDeferred hK1, ?_⟩⟩
    refine ⟨.tuple #[.string ⟨(wpL 0 xs).toArray⟩, .int .i64 0], ?_, rfl, (hB.trans b1).trans (belowK_b (w := w) (Nat.le_refl _) W1 D _ _ (by simp at hD; omega) hK1 rfl rfl)⟩
    simp [results, Try.f6, go_sem]
  case stop =>
    rintro D c pre W _ _ h _
    exact h.elim
end Go.Proofs.Ytbgifgfegndlkab
