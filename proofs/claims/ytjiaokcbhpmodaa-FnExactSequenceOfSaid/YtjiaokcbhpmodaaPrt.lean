/-
  Lists that stay while another list grows; the parts of a sail between its vertices in the program (own work; written by tools/mkprt.py).
-/
import Derived.Maps.AppendAt
import Derived.Test.YtjiaokcbhpmodaaArb
import Derived.Deep.RegionWith
import Derived.Deep.DeepCutAuto
namespace Go.Proofs.Ytjiaokcbhpmodaa
open Go.ChangeShapes Go.WideShapes Go.ChangeAt Go.RowKit
set_option linter.unusedVariables false
set_option linter.unusedSimpArgs false

/-- The block q stays as it is. -/
def Kp (W W' : World) (q : Nat) : Prop := q < W'.heap.size ∧ W'.heap[q]? = W.heap[q]?
theorem Kp.cell {W W' : World} {q o : Nat} (h : Kp W W' q) : W'.cell? ⟨q, o, none⟩ = W.cell? ⟨q, o, none⟩ := by simp [World.cell?, h.2]
theorem Kp.refl {W : World} {q : Nat} (h : q < W.heap.size) : Kp W W q := ⟨h, rfl⟩
theorem Kp.trans {A B C : World} {q : Nat} (h : Kp A B q) (k : Kp B C q) : Kp A C q := ⟨k.1, k.2.trans h.2⟩
theorem Kp.below {W W' : World} {q : Nat} (hq : q < W.heap.size) (hb : Below W.heap.size W W') : Kp W W' q := ⟨Nat.lt_of_lt_of_le hq hb.size, hb.block q hq⟩
theorem Kp.grown {W W' : World} {q : Nat} {row : Option Nat} (hq : q < W.heap.size) (hg : W.grownBy W' row) (hne : row ≠ some q) : Kp W W' q := ⟨Nat.lt_of_lt_of_le hq hg.size, hg.block q hq (fun e => hne e.symm)⟩
theorem Kp.alloc {W : World} {q : Nat} {o : Obj} (hq : q < W.heap.size) : Kp W (W.alloc o) q := Kp.below hq ((Below.refl _ _).alloc (Nat.le_refl _) _)
theorem PtsAt.kp {W W' : World} {g : Nat} {L : List (Int × Int)} (h : PtsAt W g L) (hk : Kp W W' g) : PtsAt W' g L :=
  ⟨hk.1, fun k hl => ⟨hk.cell.trans (h.2 k hl).1, hk.cell.trans (h.2 k hl).2⟩⟩
/-- The numbers of xs lie in the block q. -/
def NumAt (W : World) (q : Nat) (xs : List Int) : Prop := q < W.heap.size ∧ ∀ k, k < xs.length → W.cell? ⟨q, k, none⟩ = some (.int .i64 (xs.getD k 0))
theorem NumAt.kp {W W' : World} {g : Nat} {xs : List Int} (h : NumAt W g xs) (hk : Kp W W' g) : NumAt W' g xs := ⟨hk.1, fun k hl => hk.cell.trans (h.2 k hl)⟩
theorem NumAt.own {B : Nat} {W : World} {g cp n : Nat} {xs : List Int} (h : OwnI B W (.slice (some ⟨g, 0, none⟩) n cp) xs) (hn : 0 < xs.length) : NumAt W g xs := by
  obtain ⟨a, c, e, hv⟩ := own_view h
  obtain ⟨g', rfl, _, hl, hc, _⟩ := hv hn
  simp only [Value.slice.injEq, Option.some.injEq, Addr.mk.injEq] at e
  obtain rfl : g = g' := e.1.1
  exact ⟨hl, hc⟩
/-- A part as a slice of the points in the block g. -/
def pvS (g : Nat) (p : Nat × Nat) : Value := .slice (some ⟨g, p.1 * 2, none⟩) (p.2 + 1 - p.1) (p.2 + 1 - p.1)
def PrtAt (W : World) (q g : Nat) (PT : List (Nat × Nat)) : Prop := q < W.heap.size ∧ ∀ k, k < PT.length → W.cell? ⟨q, k, none⟩ = some (pvS g (PT.getD k (0, 0)))
theorem PrtAt.kp {W W' : World} {q g : Nat} {PT : List (Nat × Nat)} (h : PrtAt W q g PT) (hk : Kp W W' q) : PrtAt W' q g PT := ⟨hk.1, fun k hl => hk.cell.trans (h.2 k hl)⟩
/-- A list of parts that a call made. -/
def OwnS (B : Nat) (w : World) (v : Value) (g : Nat) (PT : List (Nat × Nat)) : Prop := w.ownsRow B 27 1 v PT.length (PT.map (pvS g))
theorem own_viewS {B : Nat} {w : World} {v : Value} {g : Nat} {PT : List (Nat × Nat)} (h : OwnS B w v g PT) :
    ∃ (a : Option Addr) (cap : Nat), v = .slice a PT.length cap ∧ (0 < PT.length → ∃ q, a = some ⟨q, 0, none⟩ ∧ B ≤ q ∧ PrtAt w q g PT) := by
  have h0 := h
  rcases h.2 with ⟨rfl, hn⟩ | ⟨q, cap, cur, rfl, hb, hg, _⟩
  · exact ⟨none, 0, by rw [hn], fun hp => by omega⟩
  · refine ⟨some ⟨q, 0, none⟩, cap, rfl, fun _ => ⟨q, rfl, hb, (Array.getElem?_eq_some_iff.1 hg).1, fun j hj => ?_⟩⟩
    have := World.ownsRow.cellAt h0 j (by omega)
    rw [this, List.getElem?_map, List.getElem?_eq_getElem hj]
    simp [List.getD, hj]
theorem info_sl : (Try.prog.info? 27).map (fun i => (i.zero, i.size, i.bytes)) = some (some (.slice none 0 0), 1, 24) := by kernel_rfl
theorem own_cap {B : Nat} {w : World} {g n cp : Nat} {zs : List Int} (h : OwnF B w (.slice (some ⟨g, 0, none⟩) n cp) n zs) : n ≤ cp ∧ cp ≤ maxLen := by
  rcases h.2 with ⟨e, _⟩ | ⟨q, cap, cur, e, hb, hg, h1, h2, _⟩
  · cases e
  · simp only [Value.slice.injEq] at e
    obtain ⟨_, _, rfl⟩ := e
    exact ⟨h1, h2⟩
theorem retpc_cap {w w' : World} {L : List (Int × Int)} {C : Int} {e : Ending} {n : Nat} (h : RetPC w L C e w') (hn : L.length = n) (h1 : 1 ≤ n) :
    ∃ g cp, e = .returned (.tuple #[.slice (some ⟨g, 0, none⟩) n cp, .int .i64 C]) ∧ w.heap.size ≤ g ∧ PtsAt w' g L ∧ n ≤ cp ∧ cp ≤ maxLen ∧ Below w.heap.size w w' := by
  obtain ⟨g, cp, rfl, hg, hp, hb⟩ := retpc_some h hn h1
  obtain ⟨v, e, ho, _⟩ := h
  simp at e
  subst e
  subst hn
  obtain ⟨c1, c2⟩ := own_cap ho
  exact ⟨g, cp, rfl, hg, hp, c1, c2, hb⟩
/-- The numbers c of a list of points. -/
def CsOf (L : List (Int × Int)) (cs : List Int) : Prop := cs.length = L.length ∧ (∀ k, k + 2 < L.length → cs.getD (k + 1) 0 = detP (L.getD k (0, 0)) (L.getD (k + 2) (0, 0))) ∧ (∀ k, k < L.length → Sm (L.getD k (0, 0))) ∧ ∀ k, k < cs.length → 2 ≤ cs.getD k 0 ∧ cs.getD k 0 ≤ 2000000000000
theorem cnL_of (a b : Int × Int) : CsOf (slL a b) (cnL a b) := by
  rcases sl_cases a b with ⟨_, h, e, e2, _, _⟩ | ⟨_, e, e2⟩
  · rw [e, e2]
    exact ⟨cnI_len h, fun k hk => cnI_det h hk, fun k hk => slI_sm h hk, fun k hk => cnI_two h _ (by rw [show (cnI a b).getD k 0 = (cnI a b)[k] by simp [List.getD, hk]]; exact List.getElem_mem hk)⟩
  · rw [e, e2]
    exact ⟨rfl, fun k hk => by simp at hk, fun k hk => by simp at hk, fun k hk => by simp at hk⟩
theorem own_snocS {B : Nat} {w : World} {v : Value} {g s k k2 : Nat} {pre : List (Nat × Nat)} (h : w.ownsRow B 27 1 v (pre.length + 1) (pre.map (pvS g) ++ [.slice (some ⟨g, s * 2, none⟩) (k2 - s) (k2 - s)])) (hk : k2 = k + 1) : OwnS B w v g (pre ++ [(s, k)]) := by
  subst hk
  show World.ownsRow _ _ _ _ _ (pre ++ [(s, k)]).length _
  rw [List.length_append, List.map_append]
  exact h
theorem partsOf_none (a : Option Addr) (cp : Nat) (w : World) : Calls Try.prog 49 #[.slice a 0 cp] w fun e w' => e = .returned (.slice none 0 0) ∧ w = w' := by
  go_enter Try.func49, Try.ntmps49
  go_wp2
  refine wp_loop_rounds 1 ?_
  rw [rounds_succ]
  go_wp2
  go_ret
  exact ⟨rfl, rfl⟩
set_option maxHeartbeats 8000000 in
theorem partsOf_some (L : List (Int × Int)) (cs : List Int) (g cp n : Nat) (w : World) (hN : L.length = n) (h2 : 2 ≤ n) (hl : n ≤ 2000) (hcp : n ≤ cp) (hcp2 : cp ≤ maxLen) (hpt : PtsAt w g L) (hcs : CsOf L cs) :
    Calls Try.prog 49 #[.slice (some ⟨g, 0, none⟩) n cp] w fun e w' => ∃ v, e = .returned v ∧ OwnS w.heap.size w' v g (ptsL cs) ∧ Below w.heap.size w w' := by
  obtain ⟨ti0, hi, hz0, hz1, hz2⟩ := info_parts info_sl
  have HN := Lib.hid hN
  have HCN : Hid (cs.length = n) := by show cs.length = n; rw [hcs.1, HN.out]
  have HL := Lib.hid hl
  have H2 := Lib.hid h2
  have HPT := Lib.hid hpt
  have HCS := Lib.hid hcs
  have HCP := Lib.hid hcp
  have HCQ := Lib.hid hcp2
  obtain ⟨PT, hPT⟩ : ∃ PT, ptsL cs = PT := ⟨_, rfl⟩
  rw [hPT]
  have HP : Hid (ptsN (cs.drop 1) 0 1 = PT) := hPT
  obtain ⟨n1, hn1⟩ : ∃ n1, n1 = n - 1 := ⟨_, rfl⟩
  have HN1 : Hid (n = n1 + 1) := by show n = n1 + 1; omega
  have j1 : (n : Int) - 1 = (n1 : Int) := by omega
  have j2 : IntKind.i64.wrap (n1 : Int) = (n1 : Int) := by rw [IntKind.wrap_i64]; omega
  have j3 : (n : Int) ≤ 2000 := by omega
  have j4 : (n : Int) ≤ (cp : Int) := by omega
  have j5 : (cp : Int) ≤ 9223372036854775807 := by unfold maxLen at hcp2; omega
  clear hN h2 hl hpt hcs hcp hcp2 hPT hn1
  go_enter Try.func49, Try.ntmps49
  go_wp2
  go_loopw [3, 4, 6] (fun ps st i wr => ∃ (s k : Nat) (pre : List (Nat × Nat)), st = .int .i64 (s : Int) ∧ i = .int .i64 (k : Int) ∧ 1 ≤ k ∧ k ≤ n ∧ s < k ∧ pre.length < k ∧ OwnS w.heap.size wr ps g pre ∧ pre ++ ptsN (cs.drop k) s k = PT ∧ Below w.heap.size w wr) (fun _ _ i _ => n - (intOf i).toNat)
  case atStart => exact ⟨0, 1, [], rfl, rfl, by omega, by have := H2.out; omega, by omega, by simp, World.ownsRow_nil _ _ _ _, by rw [← HP.out]; rfl, Below.refl _ _⟩
  case round =>
    obtain ⟨s, k, pre, rfl, rfl, hk1, hkn, hsk, hpk, hO, hpre, hbel⟩ := hrel
    obtain ⟨pa, pc, rfl, _⟩ := own_viewS hO
    have HO := Lib.hid hO
    have HPRE := Lib.hid hpre
    have HBL := Lib.hid hbel
    have HK1 := Lib.hid hk1
    have HKN := Lib.hid hkn
    have HSK := Lib.hid hsk
    have HPK := Lib.hid hpk
    obtain ⟨kz, hkz⟩ : ∃ kz, k = kz + 1 := ⟨k - 1, by omega⟩
    have HKZ := Lib.hid hkz
    by_cases hlt : k < n
    · have i0 : (0 : Int) ≤ (k : Int) := by omega
      have i1 : (k : Int) ≤ (n1 : Int) := by have := HN1.out; omega
      have i2 : (k : Int) < (n : Int) := by omega
      have hkin : k = n1 ∨ k + 1 < n := by have := HN1.out; omega
      obtain ⟨k2, hk2⟩ : ∃ k2, k2 = k + 1 := ⟨_, rfl⟩
      have HK2 := Lib.hid hk2
      have i3 : (k : Int) + 1 = (k2 : Int) := by omega
      have i4 : IntKind.i64.wrap (k2 : Int) = (k2 : Int) := by rw [IntKind.wrap_i64]; omega
      have i5 : (s : Int) ≤ (k2 : Int) := by omega
      have i6 : (k2 : Int) ≤ (cp : Int) := by omega
      have i7 : (0 : Int) ≤ (s : Int) := by omega
      have i8 : (0 : Int) ≤ (k2 : Int) := by omega
      have ik : ¬ k2 = s := by omega
      have il : ¬ (k2 : Int) = (s : Int) := by omega
      have HLT := Lib.hid hlt
      clear hpre hbel hO hk1 hkn hsk hpk
      by_cases hlast : k = n1
      · have e1 : ((k : Int) == (n1 : Int)) = true := by rw [hlast]; simp
        have e2 : decide ((k : Int) = (n1 : Int)) = true := by rw [hlast]; simp
        have HNX := Lib.hid (pts_last cs k s (by rw [HCN.out]; have := HN1.out; omega))
        have HLA := Lib.hid hlast
        clear hk2 hkz hlast hkin hlt
        go_wp2
        refine wp_region_held_drew (S := fun W' => Below wr.heap.size wr W') (by kernel_rfl) ?_ (fun hHeld => ?_); focus ((try dsimp only); (repeat' (first | (with_reducible exact Below.refl _ _) | (with_reducible refine Below.alloc ?_ ?_ _) | (with_reducible refine Below.setCell ?_ ?_ _) | (with_reducible refine Below.drew ?_) | (with_reducible refine below_drewN ?_ _) | (with_reducible assumption) | (with_reducible refine below_after (by with_reducible assumption) ?_) | go_size)))
        have hHeld : Below wr.heap.size wr _ := hHeld
        (refine wpAnyH_take (i := 0) (v := ?_) rfl (by kernel_rfl) (by kernel_rfl) (by kernel_rfl) (fun _ _ _ h => h) (Or.inl ⟨rfl, ?_⟩) (by assumption) ?_; rotate_left; focus (intro w hSw; (try dsimp only at hSw); go_simp; try (with_reducible rfl))); (try simp only [Act.put, List.getElem_toArray, List.getElem_cons_succ, List.getElem_cons_zero, List.setIfInBounds_toArray, List.set_cons_zero, List.set_cons_succ])
        (refine wpAnyH_take (i := 1) (v := ?_) rfl (by kernel_rfl) (by kernel_rfl) (by kernel_rfl) (fun _ _ _ h => h) (Or.inl ⟨rfl, ?_⟩) (by assumption) ?_; rotate_left; focus (intro w hSw; (try dsimp only at hSw); go_simp; try (with_reducible rfl))); (try simp only [Act.put, List.getElem_toArray, List.getElem_cons_succ, List.getElem_cons_zero, List.setIfInBounds_toArray, List.set_cons_zero, List.set_cons_succ])
        (refine wpAnyH_take (i := 2) (v := ?_) rfl (by kernel_rfl) (by kernel_rfl) (by kernel_rfl) (fun _ _ _ h => h) (Or.inl ⟨rfl, ?_⟩) (by assumption) ?_; rotate_left; focus (intro w hSw; (try dsimp only at hSw); go_simp; try (with_reducible rfl))); (try simp only [Act.put, List.getElem_toArray, List.getElem_cons_succ, List.getElem_cons_zero, List.setIfInBounds_toArray, List.set_cons_zero, List.set_cons_succ])
        (refine wpAnyH_take (i := 3) (v := ?_) rfl (by kernel_rfl) (by kernel_rfl) (by kernel_rfl) (fun _ _ _ h => h) (Or.inl ⟨rfl, ?_⟩) (by assumption) ?_; rotate_left; focus (intro w hSw; (try dsimp only at hSw); go_simp; try (with_reducible rfl))); (try simp only [Act.put, List.getElem_toArray, List.getElem_cons_succ, List.getElem_cons_zero, List.setIfInBounds_toArray, List.set_cons_zero, List.set_cons_succ])
        (refine wpAnyH_take (i := 4) rfl (by kernel_rfl) (by kernel_rfl) (by kernel_rfl) (fun _ _ _ h => h) (Or.inr ⟨rfl, rfl⟩) (by assumption) ?_); (try simp only [Act.put, List.getElem_toArray, List.getElem_cons_succ, List.getElem_cons_zero, List.setIfInBounds_toArray, List.set_cons_zero, List.set_cons_succ])
        (refine wpAnyH_take (i := 5) rfl (by kernel_rfl) (by kernel_rfl) (by kernel_rfl) (fun _ _ _ h => h) (Or.inr ⟨rfl, rfl⟩) (by assumption) ?_); (try simp only [Act.put, List.getElem_toArray, List.getElem_cons_succ, List.getElem_cons_zero, List.setIfInBounds_toArray, List.set_cons_zero, List.set_cons_succ])
        (refine wpAnyH_take (i := 6) rfl (by kernel_rfl) (by kernel_rfl) (by kernel_rfl) (fun _ _ _ h => h) (Or.inr ⟨rfl, rfl⟩) (by assumption) ?_); (try simp only [Act.put, List.getElem_toArray, List.getElem_cons_succ, List.getElem_cons_zero, List.setIfInBounds_toArray, List.set_cons_zero, List.set_cons_succ])
        (refine wpAnyH_take (i := 7) rfl (by kernel_rfl) (by kernel_rfl) (by kernel_rfl) (fun _ _ _ h => h) (Or.inr ⟨rfl, rfl⟩) (by assumption) ?_); (try simp only [Act.put, List.getElem_toArray, List.getElem_cons_succ, List.getElem_cons_zero, List.setIfInBounds_toArray, List.set_cons_zero, List.set_cons_succ])
        (refine wpAnyH_take (i := 8) rfl (by kernel_rfl) (by kernel_rfl) (by kernel_rfl) (fun _ _ _ h => h) (Or.inr ⟨rfl, rfl⟩) (by assumption) ?_); (try simp only [Act.put, List.getElem_toArray, List.getElem_cons_succ, List.getElem_cons_zero, List.setIfInBounds_toArray, List.set_cons_zero, List.set_cons_succ])
        (refine wpAnyH_take (i := 9) rfl (by kernel_rfl) (by kernel_rfl) (by kernel_rfl) (fun _ _ _ h => h) (Or.inr ⟨rfl, rfl⟩) (by assumption) ?_); (try simp only [Act.put, List.getElem_toArray, List.getElem_cons_succ, List.getElem_cons_zero, List.setIfInBounds_toArray, List.set_cons_zero, List.set_cons_succ])
        (refine wpAnyH_take (i := 10) rfl (by kernel_rfl) (by kernel_rfl) (by kernel_rfl) (fun _ _ _ h => h) (Or.inr ⟨rfl, rfl⟩) (by assumption) ?_); (try simp only [Act.put, List.getElem_toArray, List.getElem_cons_succ, List.getElem_cons_zero, List.setIfInBounds_toArray, List.set_cons_zero, List.set_cons_succ])
        (refine wpAnyH_take (i := 11) rfl (by kernel_rfl) (by kernel_rfl) (by kernel_rfl) (fun _ _ _ h => h) (Or.inr ⟨rfl, rfl⟩) (by assumption) ?_); (try simp only [Act.put, List.getElem_toArray, List.getElem_cons_succ, List.getElem_cons_zero, List.setIfInBounds_toArray, List.set_cons_zero, List.set_cons_succ])
        (refine wpAnyH_take (i := 12) rfl (by kernel_rfl) (by kernel_rfl) (by kernel_rfl) (fun _ _ _ h => h) (Or.inr ⟨rfl, rfl⟩) (by assumption) ?_); (try simp only [Act.put, List.getElem_toArray, List.getElem_cons_succ, List.getElem_cons_zero, List.setIfInBounds_toArray, List.set_cons_zero, List.set_cons_succ])
        (refine wpAnyH_take (i := 13) rfl (by kernel_rfl) (by kernel_rfl) (by kernel_rfl) (fun _ _ _ h => h) (Or.inr ⟨rfl, rfl⟩) (by assumption) ?_); (try simp only [Act.put, List.getElem_toArray, List.getElem_cons_succ, List.getElem_cons_zero, List.setIfInBounds_toArray, List.set_cons_zero, List.set_cons_succ])
        (refine wpAnyH_take (i := 14) rfl (by kernel_rfl) (by kernel_rfl) (by kernel_rfl) (fun _ _ _ h => h) (Or.inr ⟨rfl, rfl⟩) (by assumption) ?_); (try simp only [Act.put, List.getElem_toArray, List.getElem_cons_succ, List.getElem_cons_zero, List.setIfInBounds_toArray, List.set_cons_zero, List.set_cons_succ])
        (refine wpAnyH_take (i := 15) rfl (by kernel_rfl) (by kernel_rfl) (by kernel_rfl) (fun _ _ _ h => h) (Or.inr ⟨rfl, rfl⟩) (by assumption) ?_); (try simp only [Act.put, List.getElem_toArray, List.getElem_cons_succ, List.getElem_cons_zero, List.setIfInBounds_toArray, List.set_cons_zero, List.set_cons_succ])
        (refine wpAnyH_take (i := 16) (v := ?_) rfl (by kernel_rfl) (by kernel_rfl) (by kernel_rfl) (fun _ _ _ h => h) (Or.inl ⟨rfl, ?_⟩) (by assumption) ?_; rotate_left; focus (intro w hSw; (try dsimp only at hSw); go_simp; try (with_reducible rfl))); (try simp only [Act.put, List.getElem_toArray, List.getElem_cons_succ, List.getElem_cons_zero, List.setIfInBounds_toArray, List.set_cons_zero, List.set_cons_succ])
        refine wpAnyH_done (by kernel_rfl) ?_ _
        go_wp2_with (first | (at_builtin; refine wpList_append_own_at _ rfl _ _ 51 rfl w.heap.size 27 ti0 (.slice none 0 0) 1 24 Try.underlying51 hi hz0 hz1 hz2 rfl (by decide) _ _ _ rfl (own_below HO.out ?hb) ⟨_, 0, none⟩ 1 1 [.slice (some ⟨g, s * 2, none⟩) (k2 - s) (k2 - s)] rfl rfl ?c1 ?c2 ?c3 ?c4 ?c5 ?_))
        case hb => (repeat' (first | (with_reducible exact Below.refl _ _) | (with_reducible refine Below.alloc ?_ ?_ _) | (with_reducible refine Below.setCell ?_ ?_ _) | (with_reducible refine Below.drew ?_) | (with_reducible refine below_drewN ?_ _) | (with_reducible assumption) | (with_reducible refine below_after (by with_reducible assumption) ?_) | go_size))
        case c1 =>
          intro j u hj
          match j, hj with
          | 0, hj => simp at hj; subst hj; simp [Addr.add]
        case c2 => intro u hu; simp at hu; subst hu; rfl
        case c3 => have := HPK.out; have := HKN.out; have := HL.out; unfold maxLen; omega
        case c4 => have := HPK.out; have := HKN.out; have := HL.out; omega
        case c5 => exact Below.size (below_after (w := wr) (by (repeat' (first | (with_reducible exact Below.refl _ _) | (with_reducible refine Below.alloc ?_ ?_ _) | (with_reducible refine Below.setCell ?_ ?_ _) | (with_reducible refine Below.drew ?_) | (with_reducible refine below_drewN ?_ _) | (with_reducible assumption) | (with_reducible refine below_after (by with_reducible assumption) ?_) | go_size))) HBL.out)
        intro v' w1 hown' hgrow hnil hat
        have hb1 : Below w.heap.size w w1 := Below.grown (below_after (w := wr) (by (repeat' (first | (with_reducible exact Below.refl _ _) | (with_reducible refine Below.alloc ?_ ?_ _) | (with_reducible refine Below.setCell ?_ ?_ _) | (with_reducible refine Below.drew ?_) | (with_reducible refine below_drewN ?_ _) | (with_reducible assumption) | (with_reducible refine below_after (by with_reducible assumption) ?_) | go_size))) HBL.out) hgrow (Below.size (below_after (w := wr) (by (repeat' (first | (with_reducible exact Below.refl _ _) | (with_reducible refine Below.alloc ?_ ?_ _) | (with_reducible refine Below.setCell ?_ ?_ _) | (with_reducible refine Below.drew ?_) | (with_reducible refine below_drewN ?_ _) | (with_reducible assumption) | (with_reducible refine below_after (by with_reducible assumption) ?_) | go_size))) HBL.out)) (fun k hk => (World.ownsRow.lt HO.out k hk).1)
        have OS := Lib.hid (own_snocS hown' HK2.out)
        have HB1 := Lib.hid hb1
        clear hown' hgrow hnil hat hb1
        go_wp2
        go_roundw
        case rel =>
          refine ⟨k, k2, pre ++ [(s, k)], rfl, by first | rfl | go_num, by have := HK2.out; omega, by have := HK2.out; have := HLT.out; omega, by have := HK2.out; omega, by have := HK2.out; have := HPK.out; simp; omega, OS.out, ?_, HB1.out⟩
          rw [HK2.out, pts_end cs (k + 1) k (by rw [HCN.out]; have := HN1.out; have := HLA.out; omega)]
          have := HPRE.out
          rw [HNX.out] at this
          simpa using this
        case measure => have := HK2.out; have := HLT.out; simp [intOf]; omega
      · have e1 : ((k : Int) == (n1 : Int)) = false := by
          cases hq : ((k : Int) == (n1 : Int))
          · rfl
          · simp only [beq_iff_eq] at hq; omega
        have e2 : ¬ (k : Int) = (n1 : Int) := by omega
        have hk1n : k + 1 < n := by omega
        have i9 : (k2 : Int) < (n : Int) := by omega
        have HKM := Lib.hid hk1n
        have ia : (k : Int) - 1 = (kz : Int) := by omega
        have ib : IntKind.i64.wrap (kz : Int) = (kz : Int) := by rw [IntKind.wrap_i64]; omega
        have ic : (0 : Int) ≤ (kz : Int) := by omega
        have id' : (kz : Int) < (n : Int) := by omega
        obtain ⟨⟨u0, v0⟩, hu0⟩ : ∃ u, L.getD kz (0, 0) = u := ⟨_, rfl⟩
        obtain ⟨⟨u1, v1⟩, hu1⟩ : ∃ u, L.getD k2 (0, 0) = u := ⟨_, rfl⟩
        have s0 := HCS.out.2.2.1 kz (by rw [HN.out]; omega)
        have s1 := HCS.out.2.2.1 k2 (by rw [HN.out]; omega)
        have hcd := HCS.out.2.1 kz (by rw [HN.out]; omega)
        rw [← hkz, show kz + 2 = k2 by omega, hu0, hu1] at hcd
        rw [hu0] at s0
        rw [hu1] at s1
        have HS0 : Hid (Bn u0 ∧ Bn v0) := sm_bn s0
        have HS1 : Hid (Bn u1 ∧ Bn v1) := sm_bn s1
        obtain ⟨C, hC⟩ : ∃ C, cs.getD k 0 = C := ⟨_, rfl⟩
        rw [hC] at hcd
        have HC := Lib.hid hC
        have HDT : Hid (∀ w, Calls Try.prog 45 #[.agg #[.int .i64 u0, .int .i64 v0], .agg #[.int .i64 u1, .int .i64 v1]] w fun e w' => e = .returned (.int .i64 C) ∧ Below w.heap.size w w') := by
          intro w
          have := determinant_any u0 v0 u1 v1 w HS0.out.1 HS0.out.2 HS1.out.1 HS1.out.2
          rw [← hcd] at this
          exact this
        have HKR : Hid (∀ W', Below wr.heap.size wr W' → W'.cell? ⟨g, kz * 2, none⟩ = some (.int .i64 u0) ∧ W'.cell? ⟨g, kz * 2 + 1, none⟩ = some (.int .i64 v0) ∧ W'.cell? ⟨g, k2 * 2, none⟩ = some (.int .i64 u1) ∧ W'.cell? ⟨g, k2 * 2 + 1, none⟩ = some (.int .i64 v1)) := by
          intro W' hB
          have hp := PtsAt.below HPT.out (HBL.out.trans (hB.mono HBL.out.size))
          obtain ⟨b1, b2⟩ := hp.2 kz (by rw [HN.out]; omega)
          obtain ⟨b3, b4⟩ := hp.2 k2 (by rw [HN.out]; omega)
          rw [hu0] at b1 b2
          rw [hu1] at b3 b4
          exact ⟨b1, b2, b3, b4⟩
        obtain ⟨x0, x1, x2, x3⟩ := HKR.out wr (Below.refl _ _)
        clear s0 s1 hcd hC hk2 hkz hlast hkin hlt
        by_cases hc : 2 < C
        · have hc2 : (3 : Int) ≤ C := by omega
          have hc3 : ¬ C < 3 := by omega
          have HNX := Lib.hid (pts_cut cs k s (by rw [HCN.out]; exact HKM.out) (by rw [HC.out]; exact hc))
          clear hc
          go_wp2
          go_region_held3 (fun W' => W'.cell? ⟨g, kz * 2, none⟩ = some (.int .i64 u0) ∧ W'.cell? ⟨g, kz * 2 + 1, none⟩ = some (.int .i64 v0) ∧ W'.cell? ⟨g, k2 * 2, none⟩ = some (.int .i64 u1) ∧ W'.cell? ⟨g, k2 * 2 + 1, none⟩ = some (.int .i64 v1)) ((refine (HKR.out _ ?_); repeat' (first | (with_reducible refine Below.alloc ?_ ?_ _) | (with_reducible refine Below.setCell ?_ ?_ _) | (with_reducible refine Below.drew ?_) | (with_reducible exact Below.refl _ _) | (with_reducible refine below_after (by with_reducible assumption) ?_) | (first | omega | (simp only [World.size_alloc, World.size_drew, World.size_setCell]; omega))))) (first | (go_at_call 45; refine (HDT.out _).mono ?_; rintro e wn ⟨rfl, hb⟩; have hsz := hb.size; (try simp only [World.size_alloc, World.size_setCell, World.size_drew] at hsz); first | (revert hb; with_reducible change Below (World.heap (World.alloc _ _)).size (World.alloc _ _) _ → _; intro hb; have hnw := after_new hb; (try simp only [World.size_alloc, World.size_drew] at hnw)) | (revert hb; with_reducible change Below (World.heap (World.drew (World.alloc _ _))).size (World.drew (World.alloc _ _)) _ → _; intro hb; have hnw := after_newd hb; (try simp only [World.size_alloc, World.size_drew] at hnw)) | (revert hnw; with_reducible change (World.cell? _ _ = some _ ∧ World.cell? _ _ = some _ ∧ World.frozen? _ _ = false ∧ World.frozen? _ _ = false ∧ (_ : Nat) < _) → _; intro hnw; have hnw := after_old hb hnw) | skip))
          all_goals
            go_wp2_with (first | (at_builtin; refine wpList_append_own_at _ rfl _ _ 51 rfl w.heap.size 27 ti0 (.slice none 0 0) 1 24 Try.underlying51 hi hz0 hz1 hz2 rfl (by decide) _ _ _ rfl (own_below HO.out ?hb) ⟨_, 0, none⟩ 1 1 [.slice (some ⟨g, s * 2, none⟩) (k2 - s) (k2 - s)] rfl rfl ?c1 ?c2 ?c3 ?c4 ?c5 ?_))
            case hb => (repeat' (first | (with_reducible exact Below.refl _ _) | (with_reducible refine Below.alloc ?_ ?_ _) | (with_reducible refine Below.setCell ?_ ?_ _) | (with_reducible refine Below.drew ?_) | (with_reducible refine below_drewN ?_ _) | (with_reducible assumption) | (with_reducible refine below_after (by with_reducible assumption) ?_) | go_size))
            case c1 =>
              intro j u hj
              match j, hj with
              | 0, hj => simp at hj; subst hj; simp [Addr.add]
            case c2 => intro u hu; simp at hu; subst hu; rfl
            case c3 => have := HPK.out; have := HKN.out; have := HL.out; unfold maxLen; omega
            case c4 => have := HPK.out; have := HKN.out; have := HL.out; omega
            case c5 => exact Below.size (below_after (w := wr) (by (repeat' (first | (with_reducible exact Below.refl _ _) | (with_reducible refine Below.alloc ?_ ?_ _) | (with_reducible refine Below.setCell ?_ ?_ _) | (with_reducible refine Below.drew ?_) | (with_reducible refine below_drewN ?_ _) | (with_reducible assumption) | (with_reducible refine below_after (by with_reducible assumption) ?_) | go_size))) HBL.out)
            intro v' w1 hown' hgrow hnil hat
            have hb1 : Below w.heap.size w w1 := Below.grown (below_after (w := wr) (by (repeat' (first | (with_reducible exact Below.refl _ _) | (with_reducible refine Below.alloc ?_ ?_ _) | (with_reducible refine Below.setCell ?_ ?_ _) | (with_reducible refine Below.drew ?_) | (with_reducible refine below_drewN ?_ _) | (with_reducible assumption) | (with_reducible refine below_after (by with_reducible assumption) ?_) | go_size))) HBL.out) hgrow (Below.size (below_after (w := wr) (by (repeat' (first | (with_reducible exact Below.refl _ _) | (with_reducible refine Below.alloc ?_ ?_ _) | (with_reducible refine Below.setCell ?_ ?_ _) | (with_reducible refine Below.drew ?_) | (with_reducible refine below_drewN ?_ _) | (with_reducible assumption) | (with_reducible refine below_after (by with_reducible assumption) ?_) | go_size))) HBL.out)) (fun k hk => (World.ownsRow.lt HO.out k hk).1)
            have OS := Lib.hid (own_snocS hown' HK2.out)
            have HB1 := Lib.hid hb1
            clear hown' hgrow hnil hat hb1
            go_wp2
            go_roundw
            case rel =>
              refine ⟨k, k2, pre ++ [(s, k)], rfl, by first | rfl | go_num, by have := HK2.out; omega, by have := HK2.out; have := HLT.out; omega, by have := HK2.out; omega, by have := HK2.out; have := HPK.out; simp; omega, OS.out, ?_, HB1.out⟩
              rw [HK2.out]
              have := HPRE.out
              rw [HNX.out] at this
              simpa using this
            case measure => have := HK2.out; have := HLT.out; simp [intOf]; omega
        · have hc2 : ¬ (3 : Int) ≤ C := by omega
          have hc3 : C < 3 := by omega
          have HNX := Lib.hid (pts_on cs k s (by rw [HCN.out]; exact HKM.out) (by rw [HC.out]; exact hc))
          clear hc
          go_wp2
          go_region_held3 (fun W' => W'.cell? ⟨g, kz * 2, none⟩ = some (.int .i64 u0) ∧ W'.cell? ⟨g, kz * 2 + 1, none⟩ = some (.int .i64 v0) ∧ W'.cell? ⟨g, k2 * 2, none⟩ = some (.int .i64 u1) ∧ W'.cell? ⟨g, k2 * 2 + 1, none⟩ = some (.int .i64 v1)) ((refine (HKR.out _ ?_); repeat' (first | (with_reducible refine Below.alloc ?_ ?_ _) | (with_reducible refine Below.setCell ?_ ?_ _) | (with_reducible refine Below.drew ?_) | (with_reducible exact Below.refl _ _) | (with_reducible refine below_after (by with_reducible assumption) ?_) | (first | omega | (simp only [World.size_alloc, World.size_drew, World.size_setCell]; omega))))) (first | (go_at_call 45; refine (HDT.out _).mono ?_; rintro e wn ⟨rfl, hb⟩; have hsz := hb.size; (try simp only [World.size_alloc, World.size_setCell, World.size_drew] at hsz); first | (revert hb; with_reducible change Below (World.heap (World.alloc _ _)).size (World.alloc _ _) _ → _; intro hb; have hnw := after_new hb; (try simp only [World.size_alloc, World.size_drew] at hnw)) | (revert hb; with_reducible change Below (World.heap (World.drew (World.alloc _ _))).size (World.drew (World.alloc _ _)) _ → _; intro hb; have hnw := after_newd hb; (try simp only [World.size_alloc, World.size_drew] at hnw)) | (revert hnw; with_reducible change (World.cell? _ _ = some _ ∧ World.cell? _ _ = some _ ∧ World.frozen? _ _ = false ∧ World.frozen? _ _ = false ∧ (_ : Nat) < _) → _; intro hnw; have hnw := after_old hb hnw) | skip))
          all_goals
            go_wp2
            go_roundw
            case rel =>
              refine ⟨s, k2, pre, rfl, by first | rfl | go_num, by have := HK2.out; omega, by have := HK2.out; have := HKM.out; omega, by have := HK2.out; have := HSK.out; omega, by have := HK2.out; have := HPK.out; omega, own_below HO.out (by (repeat' (first | (with_reducible exact Below.refl _ _) | (with_reducible refine Below.alloc ?_ ?_ _) | (with_reducible refine Below.setCell ?_ ?_ _) | (with_reducible refine Below.drew ?_) | (with_reducible refine below_drewN ?_ _) | (with_reducible assumption) | (with_reducible refine below_after (by with_reducible assumption) ?_) | go_size))), ?_, below_after (w := wr) (by (repeat' (first | (with_reducible exact Below.refl _ _) | (with_reducible refine Below.alloc ?_ ?_ _) | (with_reducible refine Below.setCell ?_ ?_ _) | (with_reducible refine Below.drew ?_) | (with_reducible refine below_drewN ?_ _) | (with_reducible assumption) | (with_reducible refine below_after (by with_reducible assumption) ?_) | go_size))) HBL.out⟩
              rw [HK2.out]
              have := HPRE.out
              rw [HNX.out] at this
              exact this
            case measure => have := HK2.out; have := HLT.out; simp [intOf]; omega
    · have hkn2 : k = n := by omega
      have i1 : ¬ (k : Int) ≤ (n1 : Int) := by have := HN1.out; omega
      have i2 : (n1 : Int) < (k : Int) := by have := HN1.out; omega
      have hfin : pre = PT := by
        have := HPRE.out
        rw [pts_end cs k s (by rw [HCN.out]; omega), List.append_nil] at this
        exact this
      subst hfin
      clear hpre hbel hO hk1 hkn hsk hpk hkz hlt
      go_wp2
      go_ret
      exact ⟨_, rfl, HO.out, HBL.out⟩
end Go.Proofs.Ytjiaokcbhpmodaa
