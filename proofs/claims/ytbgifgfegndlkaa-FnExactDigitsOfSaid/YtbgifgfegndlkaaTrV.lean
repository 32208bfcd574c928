/-
  RunTriple and the last station of a run, in the program (own work).
-/
import Derived.Test.YtbgifgfegndlkaaTrL
namespace Go.Proofs.Ytbgifgfegndlkaa
open Go.Conc (scase rcase heap_setChan below_setChan size_setChan)
open Go.ChangeShapes Go.WideShapes Go.ChangeAt Go.RowKit
set_option linter.unusedVariables false
set_option linter.unusedSimpArgs false
set_option maxRecDepth 100000

def chLen (w : World) (c : Nat) : Nat := match w.heap[c]? with
  | some (.chan _ buf _ _ _ _) => buf.size
  | _ => 0
theorem Chn.len {w : World} {c cap : Nat} {l : List Value} {cl : Bool} (h : Chn w c cap l cl) : chLen w c = l.length := by
  obtain ⟨s, r, h⟩ := h
  unfold chLen
  rw [h]
  simp
theorem Chn.grown {w w' : World} {c cap : Nat} {l : List Value} {cl : Bool} {r : Option Nat} (h : Chn w c cap l cl) (hg : w.grownBy w' r) (hne : r ≠ some c) : Chn w' c cap l cl := h.same (hg.block c h.lt (fun e => hne e.symm))
def lastF : Stn → List Stn → Stn
  | s, [] => s
  | _, s :: l => lastF s l
def s00 : Stn := ((0, 0, 0), (0, 0, 0), (0, 0, 0), (0, 0, 0))
theorem ruleOf_b (k : Nat) (w : World) (hk : k < 4) : Calls Try.prog 63 #[.int .i64 (k : Int)] w fun e w' => e = .returned (.iface (rt k) (.agg #[])) ∧ Below w.heap.size w w' :=
  (ruleOf_any k w hk).mono fun e w' h => ⟨h.1, by rw [← h.2]; exact Below.refl _ _⟩
theorem runOf_any (k : Nat) (hk : k < 4) (n : Nat) (hn : n ≤ 300) (a b c : Int) (hs : isSt a b c = true) (w : World) : Calls Try.prog 66 #[.agg #[.int .i64 a, .int .i64 b, .int .i64 c], .iface (rt k) (.agg #[]), .int .i64 (n : Int)] w fun e w' => ∃ g, e = .returned (.chan (some g)) ∧ w.heap.size ≤ g ∧ Chn w' g (n + 1) ((runL k n (s0S (a, b, c))).map vS) true ∧ Below w.heap.size w w' := by
  obtain ⟨FE, hm, hc, hE⟩ := inv_end k hk
  exact runOf_ok k n hn a b c (rt k) FE _ w (Lib.hid hk) (Lib.hid (okS_first (t := (a, b, c)) hs)) (Lib.hid rfl) hm hc (Lib.hid fun a b c w => hE a b c w trivial)
    (Lib.hid fun i hi a b c m0 m1 m2 m3 m4 m5 m6 m7 m8 h GQ w hQ => stepV k hk i hi a b c m0 m1 m2 m3 m4 m5 m6 m7 m8 h GQ w hQ)
theorem OwnT.chan {B : Nat} {w w' : World} {v : Value} {l : List T3} {c cap s r : Nat} {buf : Array Value} {cl tm : Bool} (h : OwnT B w v l) (he : w' = w.setChan c cap buf cl s r tm) (hc : c < B) : OwnT B w' v l := by
  refine World.ownsRow.kept h (row := some c) ?_ ?_
  · subst he
    exact ⟨rfl, rfl, rfl, by rw [size_setChan]; exact Nat.le_refl _, fun k hk hr => setChan_block _ _ _ _ _ _ _ _ _ (fun e => hr (by rw [e]))⟩
  · cases hv : v.ownBlock with
    | none => exact .inl rfl
    | some k =>
      right
      have := (World.ownsRow.lt h k hv).1
      simp
      omega
set_option maxHeartbeats 6400000 in
theorem RunTriple_ok (k : Nat) (hk : k < 4) (n : Nat) (hn : n ≤ 300) (a b c : Int) (hs : isSt a b c = true) (w : World) : Calls Try.prog 27 #[.agg #[.int .i64 a, .int .i64 b, .int .i64 c], .int .i64 (k : Int), .int .i64 (n : Int)] w fun e w' => ∃ v, e = .returned (.tuple #[v, .int .i64 0]) ∧ OwnT w.heap.size w' v (runT k n (a, b, c)) ∧ Below w.heap.size w w' := by
  have HCODE := Lib.hid (fun w => codeOfRun_any a b c (k : Int) (n : Int) w)
  rw [show rcd a b c (k : Int) (n : Int) = 0 from by unfold rcd; rw [if_pos hs, if_pos (by omega)]] at HCODE
  have HR := Lib.hid (fun w => ruleOf_b k w hk)
  have HRUN := Lib.hid (fun w => runOf_any k hk n hn a b c hs w)
  obtain ⟨L, hL⟩ : ∃ L, runT k n (a, b, c) = L := ⟨_, rfl⟩
  have HL : Hid ([] ++ (runL k n (s0S (a, b, c))).map (·.1) = L) := by
    show _ = _
    rw [← hL, runT_map]
    rfl
  have HLL : Hid (L.length ≤ 301) := by
    show _ ≤ _
    have := (runL_len k n (s0S (a, b, c))).2
    rw [← HL.out]
    simp
    omega
  rw [hL]
  obtain ⟨T, hT⟩ : ∃ T, rt k = T := ⟨_, rfl⟩
  rw [hT] at HR HRUN
  clear hL hT hs hk
  have hzero : (Try.prog.info? 69).map (fun i => (i.zero, i.size, i.bytes)) = some (some (.agg #[.int .i64 0, .int .i64 0, .int .i64 0, .int .i64 0, .int .i64 0, .int .i64 0, .int .i64 0, .int .i64 0, .int .i64 0, .int .i64 0, .int .i64 0, .int .i64 0]), 12, 96) := by kernel_rfl
  obtain ⟨GT, hG⟩ : ∃ G, w.heap.size = G := ⟨_, rfl⟩
  have HG := Lib.hid hG
  go_enter Try.func27, Try.ntmps27
  go_upto_region 1 with fail
  obtain ⟨w0, hw0⟩ : ∃ w0, w0 = (w.alloc (.cells #[.int .i64 a, .int .i64 b, .int .i64 c] 24)) := ⟨_, rfl⟩
  rw [← hw0]
  have HT : Hid (Bk3 w0 GT a b c) := by
    have h := (bk3_new w a b c 24).below (W' := (w.alloc (.cells #[.int .i64 a, .int .i64 b, .int .i64 c] 24))) (by (repeat' (first | (with_reducible exact Below.refl _ _) | (with_reducible refine Below.alloc ?_ ?_ _) | (with_reducible refine Below.setCell ?_ ?_ _) | (with_reducible refine Below.drew ?_) | (with_reducible refine below_drewN ?_ _) | (with_reducible assumption) | (with_reducible refine below_after (by with_reducible assumption) ?_) | go_size)))
    (try simp only [World.size_alloc] at h)
    rw [hG] at h
    rw [hw0]; exact h
  have HB : Hid (Below w.heap.size w w0) := by show Below w.heap.size w w0; rw [hw0]; (repeat' (first | (with_reducible exact Below.refl _ _) | (with_reducible refine Below.alloc ?_ ?_ _) | (with_reducible refine Below.setCell ?_ ?_ _) | (with_reducible refine Below.drew ?_) | (with_reducible refine below_drewN ?_ _) | (with_reducible assumption) | (with_reducible refine below_after (by with_reducible assumption) ?_) | go_size))
  clear hw0
  have le_T : w.heap.size ≤ GT := by omega
  obtain ⟨⟨qT0, qT1, qT2⟩, ⟨fT0, fT1, fT2⟩, zT⟩ := HT.out
  go_wp2_with fail
  go_at_call 61
  refine (HCODE.out _).mono ?_
  rintro e w1 ⟨rfl, hb⟩
  clear qT0 fT0 qT1 fT1 qT2 fT2 zT
  have HT := Lib.hid (HT.out.below hb)
  have HB := Lib.hid (below_after hb HB.out)
  clear hb
  have HXX : Hid (∀ W, Below w1.heap.size w1 W → Bk3 W GT a b c) := fun W hW => HT.out.below hW
  go_wp2_with fail
  have HB0 := HB
  refine wp_region_held_drew (S := fun W => Below w1.heap.size w1 W) (by kernel_rfl) ?_ (fun hHeld => ?_); focus ((try dsimp only); exact (Below.refl _ _).drew)
  have HT := Lib.hid (HT.out.below (Below.drew (Below.refl _ _)))
  have hHeld : Below w1.heap.size w1 _ := hHeld
  obtain ⟨wD1, hwD1⟩ : ∃ wD, w1.drew = wD := ⟨_, rfl⟩
  rw [hwD1] at hHeld HT ⊢
  clear hwD1
  (refine wpAnyH_take (i := 0) (v := ?_) rfl (by kernel_rfl) (by kernel_rfl) (by kernel_rfl) (fun _ _ _ h => h) (Or.inl ⟨rfl, ?_⟩) (by assumption) ?_; rotate_left; focus (intro W hSw; (try dsimp only at hSw); have hxx := HXX.out _ hSw; have hxT := hxx; obtain ⟨⟨iT0, iT1, iT2⟩, _, _⟩ := hxT; go_simp; try (with_reducible rfl))); (try simp only [Act.put, List.getElem_toArray, List.getElem_cons_succ, List.getElem_cons_zero, List.setIfInBounds_toArray, List.set_cons_zero, List.set_cons_succ])
  (refine wpAnyH_take (i := 1) (v := ?_) rfl (by kernel_rfl) (by kernel_rfl) (by kernel_rfl) (fun _ _ _ h => h) (Or.inl ⟨rfl, ?_⟩) (by assumption) ?_; rotate_left; focus (intro W hSw; (try dsimp only at hSw); have hxx := HXX.out _ hSw; have hxT := hxx; obtain ⟨⟨iT0, iT1, iT2⟩, _, _⟩ := hxT; go_simp; try (with_reducible rfl))); (try simp only [Act.put, List.getElem_toArray, List.getElem_cons_succ, List.getElem_cons_zero, List.setIfInBounds_toArray, List.set_cons_zero, List.set_cons_succ])
  (refine wpAnyH_take (i := 3) (v := ?_) rfl (by kernel_rfl) (by kernel_rfl) (by kernel_rfl) (fun _ _ _ h => h) (Or.inl ⟨rfl, ?_⟩) (by assumption) ?_; rotate_left; focus (intro W hSw; (try dsimp only at hSw); have hxx := HXX.out _ hSw; have hxT := hxx; obtain ⟨⟨iT0, iT1, iT2⟩, _, _⟩ := hxT; go_simp; try (with_reducible rfl))); (try simp only [Act.put, List.getElem_toArray, List.getElem_cons_succ, List.getElem_cons_zero, List.setIfInBounds_toArray, List.set_cons_zero, List.set_cons_succ])
  refine wpAnyH_ready (rs := [2]) (by kernel_rfl) (by simp) ?_; refine AllReadyH.cons rfl (fun K hK => ?_) AllReadyH.nil
  go_simp; (go_at_call 63; refine (HR.out _).mono ?_; rintro en ywr1x0 ⟨rfl, hb2⟩); have HT := Lib.hid (HT.out.below hb2); refine hK.out _ _ (below_after hb2 hHeld) (fun hHeld2 => ?_); clear hb2; (clear hHeld; rename _ => hHeld; clear hK K; have hHeld : Below w1.heap.size w1 _ := hHeld); (try simp only [Act.put, List.getElem_toArray, List.getElem_cons_succ, List.getElem_cons_zero, List.setIfInBounds_toArray, List.set_cons_zero, List.set_cons_succ])
  refine wpAnyH_ready (rs := [4]) (by kernel_rfl) (by simp) ?_; refine AllReadyH.cons rfl (fun K hK => ?_) AllReadyH.nil
  go_simp; (go_at_call 66; refine (HRUN.out _).mono ?_; rintro en ywr1x1 ⟨GC, rfl, hgc, hch, hb2⟩); have le_C : w1.heap.size ≤ GC := Nat.le_trans (Below.size hHeld) hgc; have HC := Lib.hid hch; clear hgc hch; have HT := Lib.hid (HT.out.below hb2); refine hK.out _ _ (below_after hb2 hHeld) (fun hHeld2 => ?_); clear hb2; (clear hHeld; rename _ => hHeld; clear hK K; have hHeld : Below w1.heap.size w1 _ := hHeld); (try simp only [Act.put, List.getElem_toArray, List.getElem_cons_succ, List.getElem_cons_zero, List.setIfInBounds_toArray, List.set_cons_zero, List.set_cons_succ])
  refine wpAnyH_done (by kernel_rfl) ?_ _
  have HB := Lib.hid (HB.out.trans (hHeld.mono HB.out.size))
  clear hHeld HXX
  have le_C : w.heap.size ≤ GC := Nat.le_trans HB0.out.size le_C
  clear HT
  go_wp2_with fail
  go_loopw [9] (fun v wr => ∃ (todo : List Stn) (done : List T3), done ++ todo.map (·.1) = L ∧ OwnT (GC + 1) wr v done ∧ Chn wr GC (n + 1) (todo.map vS) true ∧ Below w.heap.size w wr) (fun _ wr => chLen wr GC)
  case atStart => exact ⟨runL k n (s0S (a, b, c)), [], HL.out, World.ownsRow_nil _ _ _ _, HC.out, HB.out⟩
  case round =>
    obtain ⟨todo, done, hl, hO, hC, hbel⟩ := hrel
    clear HC HB HL
    have HC := Lib.hid hC
    have HB := Lib.hid hbel
    have HY := Lib.hid hO
    have HL := Lib.hid hl
    clear hC hbel hO hl
    obtain ⟨pa, cp, rfl⟩ := viewT HY.out
    obtain ⟨m, hm⟩ : ∃ m, done.length = m := ⟨_, rfl⟩
    have HM := Lib.hid hm
    have hdl : m ≤ 301 := by have := congrArg List.length HL.out; simp at this; have := HLL.out; omega
    rw [hm] at HY ⊢
    clear hm
    cases todo with
    | nil =>
      have hE : done = L := by have := HL.out; simpa using this
      go_upto_region 6 with fail
      refine wp_region_ops ?_
      change OpsTo _ _ _ [0, 1] _ _
      obtain ⟨sn, rn, hch⟩ := HC.out
      refine ops_shut (c := GC) (z := .agg #[.int .i64 0, .int .i64 0, .int .i64 0, .int .i64 0, .int .i64 0, .int .i64 0, .int .i64 0, .int .i64 0, .int .i64 0, .int .i64 0, .int .i64 0, .int .i64 0]) rfl rfl (by simp [go_sem, rcase, hzero]) hch ?_
      (try simp only [Act.put, List.getElem_toArray, List.getElem_cons_succ, List.getElem_cons_zero, List.setIfInBounds_toArray, List.set_cons_zero, List.set_cons_succ])
      refine ops_value (v := .bool false) (w' := wr) rfl rfl (by go_simp) ?_
      (try simp only [Act.put, List.getElem_toArray, List.getElem_cons_succ, List.getElem_cons_zero, List.setIfInBounds_toArray, List.set_cons_zero, List.set_cons_succ])
      refine ops_end ?_
      clear hch
      go_wp2_with fail
      refine bodyPost_ret (v := .tuple #[.slice pa m cp, .int .i64 0]) (by simp (maxDischargeDepth := 8) [results, Try.results27, go_sem, *]) rfl ?_
      refine ⟨_, rfl, ?_, HB.out⟩
      have h := own_up HY.out (show w.heap.size ≤ GC + 1 by omega)
      rw [← hE]
      exact h
    | cons s rest =>
      obtain ⟨⟨a, b, c⟩, ⟨m0, m1, m2⟩, ⟨m3, m4, m5⟩, ⟨m6, m7, m8⟩⟩ := s
      have HL2 : Hid ((done ++ [(a, b, c)]) ++ rest.map (·.1) = L) := by
        show _ = _
        rw [← HL.out, List.append_assoc]
        rfl
      go_upto_region 6 with fail
      refine wp_region_ops ?_
      change OpsTo _ _ _ [0, 1] _ _
      obtain ⟨sn, rn, hch⟩ := HC.out
      refine ops_recv (c := GC) (v := .agg #[.int .i64 a, .int .i64 b, .int .i64 c, .int .i64 m0, .int .i64 m1, .int .i64 m2, .int .i64 m3, .int .i64 m4, .int .i64 m5, .int .i64 m6, .int .i64 m7, .int .i64 m8]) (z := .agg #[.int .i64 0, .int .i64 0, .int .i64 0, .int .i64 0, .int .i64 0, .int .i64 0, .int .i64 0, .int .i64 0, .int .i64 0, .int .i64 0, .int .i64 0, .int .i64 0]) (l := rest.map vS) rfl rfl (by simp [go_sem, rcase, hzero]) hch ?_
      (try simp only [Act.put, List.getElem_toArray, List.getElem_cons_succ, List.getElem_cons_zero, List.setIfInBounds_toArray, List.set_cons_zero, List.set_cons_succ])
      obtain ⟨wn, hwn⟩ : ∃ wx, wx = wr.setChan GC (n + 1) (rest.map vS).toArray true sn (rn + 1) false := ⟨_, rfl⟩
      rw [← hwn]
      refine ops_value (v := .bool true) (w' := wn) rfl rfl (by go_simp) ?_
      (try simp only [Act.put, List.getElem_toArray, List.getElem_cons_succ, List.getElem_cons_zero, List.setIfInBounds_toArray, List.set_cons_zero, List.set_cons_succ])
      refine ops_end ?_
      have HC2 : Hid (Chn wn GC (n + 1) (rest.map vS) true) := ⟨sn, rn + 1, by rw [hwn]; exact heap_setChan _ _ _ _ _ _ _ _ HC.out.lt⟩
      have HB2 : Hid (Below w.heap.size w wn) := by show Below _ _ _; rw [hwn]; exact below_setChan HB.out le_C _ _ _ _ _ _
      have HY2 := Lib.hid (OwnT.chan HY.out hwn (by omega))
      have hlen := HC.out.len
      have hlen2 := HC2.out.len
      have HME : Hid (chLen wn GC < chLen wr GC) := by show _ < _; rw [hlen, hlen2]; simp
      clear hch hlen hlen2 HC HB HY HL hwn
      have HC := HC2
      have HB := HB2
      have HY := HY2
      clear HC2 HB2 HY2
      have HCN := Lib.hid HC.out.len
      go_upto_region 8 with fail
      obtain ⟨GS, hGS⟩ : ∃ g, wn.heap.size = g := ⟨_, rfl⟩
      obtain ⟨w21, hw21⟩ : ∃ wx, wx = wn.alloc (.cells #[.int .i64 a, .int .i64 b, .int .i64 c, .int .i64 m0, .int .i64 m1, .int .i64 m2, .int .i64 m3, .int .i64 m4, .int .i64 m5, .int .i64 m6, .int .i64 m7, .int .i64 m8] 69) := ⟨_, rfl⟩
      rw [← hw21, hGS]
      have HS : Hid (Bk12 w21 GS a b c m0 m1 m2 m3 m4 m5 m6 m7 m8) := by rw [hw21, ← hGS]; exact bk12_new wn a b c m0 m1 m2 m3 m4 m5 m6 m7 m8 _
      have le_S : w.heap.size ≤ GS := by rw [← hGS]; exact HB.out.size
      have ne_S_C : GS ≠ GC := by have := HC.out.lt; omega
      have ne_C_S : GC ≠ GS := Ne.symm ne_S_C
      have HC := Lib.hid (HC.out.below ((Below.refl _ _).alloc (Nat.le_refl _) (.cells #[.int .i64 a, .int .i64 b, .int .i64 c, .int .i64 m0, .int .i64 m1, .int .i64 m2, .int .i64 m3, .int .i64 m4, .int .i64 m5, .int .i64 m6, .int .i64 m7, .int .i64 m8] 69)))
      have HY := Lib.hid (HY.out.below ((Below.refl _ _).alloc (Nat.le_refl _) (.cells #[.int .i64 a, .int .i64 b, .int .i64 c, .int .i64 m0, .int .i64 m1, .int .i64 m2, .int .i64 m3, .int .i64 m4, .int .i64 m5, .int .i64 m6, .int .i64 m7, .int .i64 m8] 69)))
      have HB := Lib.hid (Below.alloc HB.out HB.out.size (.cells #[.int .i64 a, .int .i64 b, .int .i64 c, .int .i64 m0, .int .i64 m1, .int .i64 m2, .int .i64 m3, .int .i64 m4, .int .i64 m5, .int .i64 m6, .int .i64 m7, .int .i64 m8] 69))
      rw [← hw21] at HC HY HB
      clear hw21 hGS
      obtain ⟨⟨qS0, qS1, qS2, qS3, qS4, qS5, qS6, qS7, qS8, qS9, qS10, qS11⟩, ⟨fS0, fS1, fS2, fS3, fS4, fS5, fS6, fS7, fS8, fS9, fS10, fS11⟩, zS⟩ := HS.out
      have HYq := Lib.hid (HY.out.below ((Below.refl _ _).alloc (Nat.le_refl _) (.cells #[.int .i64 a, .int .i64 b, .int .i64 c] 24)))
      have HCq := Lib.hid (HC.out.below ((Below.refl _ _).alloc (Nat.le_refl _) (.cells #[.int .i64 a, .int .i64 b, .int .i64 c] 24)))
      have HBq := Lib.hid (Below.alloc HB.out HB.out.size (.cells #[.int .i64 a, .int .i64 b, .int .i64 c] 24))
      have HGB : Hid (GC + 1 ≤ (w21.alloc (.cells #[.int .i64 a, .int .i64 b, .int .i64 c] 24)).heap.size) := by show _ ≤ _; rw [World.size_alloc]; have := HC.out.lt; omega
      have HDL : Hid (done.length + 1 ≤ 4194304) := by show _ ≤ _; rw [HM.out]; omega
      go_wp2_with (at_builtin; refine wpList_app_T1 (B := GC + 1) rfl _ _ rfl HYq.out (a0 := a) (a1 := b) (a2 := c) ?c0 ?c1 ?c2 HGB.out rfl rfl HDL.out ?_)
      case c0 => exact (show _ = some (Value.int .i64 a) by go_cell)
      case c1 => exact (show _ = some (Value.int .i64 b) by go_cell)
      case c2 => exact (show _ = some (Value.int .i64 c) by go_cell)
      intro v5 w5 ho hgrow
      clear qS0 fS0 qS1 fS1 qS2 fS2 qS3 fS3 qS4 fS4 qS5 fS5 qS6 fS6 qS7 fS7 qS8 fS8 qS9 fS9 qS10 fS10 qS11 fS11 zS
      have hno : ∀ k, (Value.slice pa m cp).ownBlock = some k → GC + 1 ≤ k := fun k hk => (World.ownsRow.lt HYq.out k hk).1
      have HC := Lib.hid (HCq.out.grown hgrow (fun e => by have := hno GC e; omega))
      have HB := Lib.hid (Below.grown HBq.out hgrow HBq.out.size (fun k hk => by have := hno k hk; omega))
      have hlen := HC.out.len
      have HO := Lib.hid ho
      clear ho hgrow hno HYq HCq HBq HGB HS
      go_wp2_with fail
      go_roundw
      case rel => exact ⟨rest, done ++ [(a, b, c)], HL2.out, HO.out, HC.out, HB.out⟩
      case measure => have h := HME.out; rw [HCN.out] at h; rw [hlen]; exact h
end Go.Proofs.Ytbgifgfegndlkaa
