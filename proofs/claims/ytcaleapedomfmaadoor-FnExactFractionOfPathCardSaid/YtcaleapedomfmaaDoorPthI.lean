/-
  The walk down the tree to a fraction, in the program (own work).
-/
import Derived.Test.YtcaleapedomfmaaDoorPthS
import Derived.Test.YtcaleapedomfmaaDoorNode
import Derived.Test.YtcaleapedomfmaaDoorList
import Derived.Maps.AppendAt
import Derived.Laws.IdiomStrings
import Derived.Deep.DeepCutAuto
namespace Go.Proofs.YtcaleapedomfmaaDoor
open Go.ChangeShapes Go.WideShapes Go.ChangeAt Go.RowKit
set_option linter.unusedVariables false
set_option maxRecDepth 100000
set_option linter.unusedSimpArgs false
set_option maxRecDepth 100000

theorem info_u8 : (Tryd.prog.info? 5).map (fun i => (i.zero, i.size, i.bytes)) = some (some (.int .u8 0), 1, 1) := by kernel_rfl
def byC (b : UInt8) : Value := .int .u8 (b.toNat : Int)
/-- A list of bytes that lies in blocks from B on. -/
def OwnY (B : Nat) (w : World) (v : Value) (l : List UInt8) : Prop := w.ownsRow B 5 1 v l.length (l.map byC)
theorem OwnY.below {B : Nat} {w w' : World} {v : Value} {l : List UInt8} (h : OwnY B w v l) (hb : Below w.heap.size w w') : OwnY B w' v l := own_below h hb
theorem OwnY.bk {B : Nat} {w : World} {v : Value} {l : List UInt8} (h : OwnY B w v l) : ∀ k, v.ownBlock = some k → B ≤ k ∧ k < w.heap.size := fun k hk => by
  have := h.lt k hk
  omega
theorem string_of {B : Nat} {w : World} {v : Value} {l : List UInt8} (h : OwnY B w v l) : (convert 97 9 v).run Tryd.prog w = .ok (.string ⟨l.toArray⟩) w := by
  rcases h.2 with ⟨rfl, hn⟩ | ⟨g, cap, cur, rfl, hbg, hg, hnc, hcm, hcs, htk⟩
  · have hl : l = [] := List.eq_nil_of_length_eq_zero hn
    subst hl
    rw [run_convert_bytes_string w 97 9 5 none 0 0 Tryd.underlying97 Tryd.underlying5 Tryd.underlying9]
    simp [Conv.bytesToString]
    rfl
  · refine run_convert_bytes_back (P := Tryd.prog) w 97 9 5 ⟨g, 0, none⟩ cap l Tryd.underlying97 Tryd.underlying5 Tryd.underlying9 ?_
    intro j hj
    have := h.cells (g := g) rfl j (byC l[j]) (by simp [hj])
    exact this
theorem sp_pos {P Q l0 l1 r0 r1 x y : Int} (h : Sp P Q l0 l1 r0 r1 x y) : 0 ≤ l0 ∧ 0 ≤ l1 ∧ 0 ≤ r0 ∧ 0 ≤ r1 := ⟨h.2.2.2.2.2.1, h.2.2.2.2.2.2.1, h.2.2.2.2.2.2.2.1, h.2.2.2.2.2.2.2.2⟩
def lenS : Value → Nat
  | .slice _ n _ => n
  | _ => 0
theorem OwnY.len {B : Nat} {w : World} {v : Value} {l : List UInt8} (h : OwnY B w v l) : lenS v = l.length := by
  rcases h.2 with ⟨rfl, hn⟩ | ⟨g, cap, cur, rfl, _⟩
  · exact hn.symm
  · rfl
theorem OwnY.form {B : Nat} {w : World} {v : Value} {l : List UInt8} (h : OwnY B w v l) : ∃ pa cap, v = .slice pa l.length cap := by
  rcases h.2 with ⟨rfl, hn⟩ | ⟨g, cap, cur, rfl, _⟩
  · exact ⟨none, 0, by rw [hn]⟩
  · exact ⟨_, _, rfl⟩
theorem turns_any (w : World) : Calls Tryd.prog 65 #[] w fun e w' => e = .returned (.agg #[.func (.func 112) #[] #[], .func (.func 113) #[] #[]]) ∧ Below w.heap.size w w' := by
  have hsf : ∀ (fn : Fn) (first cap : Array Value) (a : Addr) (m : Mode) (w : World), (store a (.func fn first cap) m).run Tryd.prog w = stored Tryd.prog w a (.func fn first cap) m := fun fn first cap a m w => run_store Tryd.prog w a _ m rfl
  have hs20 : w.heap.size < w.heap.size + 1 + 1 := (by omega)
  go_enter Tryd.func65, Tryd.ntmps65
  go_wp2
  refine bodyPost_ret (v := .agg #[.func (.func 112) #[] #[], .func (.func 113) #[] #[]]) (by simp (maxDischargeDepth := 8) [results, Tryd.results65, go_sem, *]) rfl ?_
  exact ⟨rfl, by (repeat' (first | (with_reducible exact Below.refl _ _) | (with_reducible refine Below.alloc ?_ ?_ _) | (with_reducible refine Below.setCell ?_ ?_ _) | (with_reducible refine Below.drew ?_) | (with_reducible refine below_drewN ?_ _) | (with_reducible assumption) | (with_reducible refine below_after (by with_reducible assumption) ?_) | go_size))⟩
theorem idx_turn0 (w : World) : (Instr.index 74 (.agg #[.func (.func 112) #[] #[], .func (.func 113) #[] #[]]) (.int .i64 0)).run Tryd.prog w = .ok (.func (.func 112) #[] #[]) w := by kernel_rfl
theorem idx_turn1 (w : World) : (Instr.index 74 (.agg #[.func (.func 112) #[] #[], .func (.func 113) #[] #[]]) (.int .i64 1)).run Tryd.prog w = .ok (.func (.func 113) #[] #[]) w := by kernel_rfl
set_option maxHeartbeats 3200000 in
theorem pathTo_any (a b : Int) (w : World) (ha : 1 ≤ a) (ha2 : a ≤ 1000000) (hb : 1 ≤ b) (hb2 : b ≤ 1000000) (hg : Int.gcd a b = 1) :
    Calls Tryd.prog 61 #[.agg #[.int .i64 a, .int .i64 b]] w fun e w' => e = .returned (.tuple #[.string (paB a b), .int .i64 (paC a b)]) ∧ Below w.heap.size w w' := by
  obtain ⟨i0, hi, iz0, iz1, iz2⟩ := info_parts info_u8
  obtain ⟨R, hR⟩ : ∃ R, ptN 60 a b = R := ⟨_, rfl⟩
  have HS : Hid (∀ l, R = some l → paB a b = ⟨l.toArray⟩ ∧ paC a b = 0) := fun l hl => pa_some (hR.trans hl)
  have HN : Hid (R = none → paB a b = ⟨#[]⟩ ∧ paC a b = 3) := fun hl => pa_none (hR.trans hl)
  have HR : Hid ((ptN 60 a b).map (([] : List UInt8) ++ ·) = R) := by
    show _ = R
    rw [hR]; cases R <;> simp
  have HB : Hid (1 ≤ a ∧ a ≤ 1000000 ∧ 1 ≤ b ∧ b ≤ 1000000 ∧ Int.gcd a b = 1) := ⟨ha, ha2, hb, hb2, hg⟩
  have HF := Lib.hid (sp_first ha hb)
  generalize paB a b = V at *
  generalize paC a b = C at *
  clear hR ha ha2 hb hb2 hg
  have heq := eq_pt
  have hi0 := idx_turn0
  have hi1 := idx_turn1
  have hs20 : w.heap.size < w.heap.size + 1 + 1 := (by omega)
  go_enter Tryd.func61, Tryd.ntmps61
  go_wp2_with fail
  go_at_call 64
  refine (rootOfTree_x _).mono ?_
  rintro e w1 ⟨n0, l0, g0, rfl, hn0, kn, kl, kg, hb1⟩
  have hbel1 : Below w.heap.size w w1 := below_after hb1 (by (repeat' (first | (with_reducible exact Below.refl _ _) | (with_reducible refine Below.alloc ?_ ?_ _) | (with_reducible refine Below.setCell ?_ ?_ _) | (with_reducible refine Below.drew ?_) | (with_reducible refine below_drewN ?_ _) | (with_reducible assumption) | (with_reducible refine below_after (by with_reducible assumption) ?_) | go_size)))
  have c0 : w1.cell? ⟨w.heap.size, 0, none⟩ = some (.int .i64 a) := (hb1.cell (p := ⟨w.heap.size, 0, none⟩) (by simp <;> omega)).trans (by go_cell)
  have d0 : w1.cell? ⟨w.heap.size, 1, none⟩ = some (.int .i64 b) := (hb1.cell (p := ⟨w.heap.size, 1, none⟩) (by simp <;> omega)).trans (by go_cell)
  have hz1 : w.heap.size + 1 ≤ w1.heap.size := by have := hb1.size; simp at this; omega
  have hbA : Below w1.heap.size w1 w1 := Below.refl _ _
  simp only [World.size_alloc] at kn kl kg
  clear hb1
  go_wp2_with fail
  go_loopw [4, 5] (fun s x wr => ∃ (n l g m : Nat) (u0 u1 v0 v1 p q : Int) (xs : List UInt8), x = .pointer (some ⟨n, 0, none⟩) ∧ Nx wr n l g (u0 + v0) (u1 + v1) u0 u1 v0 v1 ∧ w.heap.size + 1 ≤ n ∧ w.heap.size + 1 ≤ l ∧ w.heap.size + 1 ≤ g ∧ Sp a b u0 u1 v0 v1 p q ∧ m + xs.length = 60 ∧ (ptN m q p).map (xs ++ ·) = R ∧ OwnY (w.heap.size + 1) wr s xs ∧ (∀ k, s.ownBlock = some k → k ≠ n ∧ k ≠ l ∧ k ≠ g) ∧ Below (w.heap.size + 1) w1 wr)
    (fun s _ _ => 100 - lenS s)
  case atStart => exact ⟨n0, l0, g0, 60, 0, 1, 1, 0, b, a, [], rfl, hn0, kn, kl, kg, HF.out, rfl, HR.out, World.ownsRow_nil _ _ _ _, (fun k hk => by cases hk), Below.refl _ _⟩
  case round =>
    obtain ⟨n, l, g, m, u0, u1, v0, v1, p, q, xs, rfl, hnx, kn1, kl1, kg1, hsp, hm, hr, hown, hne, hbel⟩ := hrel
    have HM := Lib.hid hr
    have HSP := Lib.hid hsp
    have HO := Lib.hid hown
    have HNE := Lib.hid hne
    have HNX := Lib.hid hnx
    have hln := hown.len
    obtain ⟨f0, f1⟩ := hnx.1
    have c1 : wr.cell? ⟨w.heap.size, 0, none⟩ = some (.int .i64 a) := (hbel.cell (p := ⟨w.heap.size, 0, none⟩) (by simp)).trans c0
    have d1 : wr.cell? ⟨w.heap.size, 1, none⟩ = some (.int .i64 b) := (hbel.cell (p := ⟨w.heap.size, 1, none⟩) (by simp)).trans d0
    have lwr : w.heap.size < wr.heap.size := World.block_lt_of_cell? _ _ c1
    have HX : Hid (∀ W, Below wr.heap.size wr W → W.cell? ⟨n, 0, none⟩ = some (.int .i64 (u0 + v0)) ∧ W.cell? ⟨n, 1, none⟩ = some (.int .i64 (u1 + v1)) ∧ W.cell? ⟨w.heap.size, 0, none⟩ = some (.int .i64 a) ∧ W.cell? ⟨w.heap.size, 1, none⟩ = some (.int .i64 b)) := fun W hW =>
      ⟨(hnx.1.below hW).1, (hnx.1.below hW).2, (hW.cell (p := ⟨w.heap.size, 0, none⟩) lwr).trans c1, (hW.cell (p := ⟨w.heap.size, 1, none⟩) lwr).trans d1⟩
    have hend := sp_end hsp HB.out.2.2.2.2
    clear hr hown hne hnx hsp
    obtain ⟨pa, cap, rfl⟩ := HO.out.form
    by_cases hpq : p = q
    · obtain ⟨z0, z1⟩ := hend.1 hpq
      rw [z0, z1] at HX
      have HL : Hid (V = ⟨xs.toArray⟩ ∧ C = 0) := HS.out xs (by rw [← HM.out, hpq, ptN_end]; simp)
      have hst := fun W hW => string_of (HO.out.below (w' := W) hW)
      clear hend f0 f1
      go_upto_region 3 with fail
      refine wp_region_held_drew (S := fun W => Below wr.heap.size wr W) (by kernel_rfl) ?_ (fun hHeld => ?_); focus ((try dsimp only); exact (Below.refl _ _).drew)
      have hHeld : Below wr.heap.size wr _ := hHeld
      obtain ⟨wA, hwA⟩ : ∃ wD, wr.drew = wD := ⟨_, rfl⟩
      rw [hwA] at hHeld ⊢
      clear hwA
      (refine wpAnyH_take (i := 0) (v := ?_) rfl (by kernel_rfl) (by kernel_rfl) (by kernel_rfl) (fun _ _ _ h => h) (Or.inl ⟨rfl, ?_⟩) (by assumption) ?_; rotate_left; focus (intro W hSw; (try dsimp only at hSw); obtain ⟨i0, i1, i2, i3⟩ := HX.out _ hSw; go_simp; try (with_reducible rfl))); (try simp only [Act.put, List.getElem_toArray, List.getElem_cons_succ, List.getElem_cons_zero, List.setIfInBounds_toArray, List.set_cons_zero, List.set_cons_succ])
      (refine wpAnyH_take (i := 1) (v := ?_) rfl (by kernel_rfl) (by kernel_rfl) (by kernel_rfl) (fun _ _ _ h => h) (Or.inl ⟨rfl, ?_⟩) (by assumption) ?_; rotate_left; focus (intro W hSw; (try dsimp only at hSw); obtain ⟨i0, i1, i2, i3⟩ := HX.out _ hSw; go_simp; try (with_reducible rfl))); (try simp only [Act.put, List.getElem_toArray, List.getElem_cons_succ, List.getElem_cons_zero, List.setIfInBounds_toArray, List.set_cons_zero, List.set_cons_succ])
      (refine wpAnyH_take (i := 2) (v := ?_) rfl (by kernel_rfl) (by kernel_rfl) (by kernel_rfl) (fun _ _ _ h => h) (Or.inl ⟨rfl, ?_⟩) (by assumption) ?_; rotate_left; focus (intro W hSw; (try dsimp only at hSw); obtain ⟨i0, i1, i2, i3⟩ := HX.out _ hSw; go_simp; try (with_reducible rfl))); (try simp only [Act.put, List.getElem_toArray, List.getElem_cons_succ, List.getElem_cons_zero, List.setIfInBounds_toArray, List.set_cons_zero, List.set_cons_succ])
      (refine wpAnyH_take (i := 3) (v := ?_) rfl (by kernel_rfl) (by kernel_rfl) (by kernel_rfl) (fun _ _ _ h => h) (Or.inl ⟨rfl, ?_⟩) (by assumption) ?_; rotate_left; focus (intro W hSw; (try dsimp only at hSw); obtain ⟨i0, i1, i2, i3⟩ := HX.out _ hSw; go_simp; try (with_reducible rfl))); (try simp only [Act.put, List.getElem_toArray, List.getElem_cons_succ, List.getElem_cons_zero, List.setIfInBounds_toArray, List.set_cons_zero, List.set_cons_succ])
      (refine wpAnyH_take (i := 4) (v := ?_) rfl (by kernel_rfl) (by kernel_rfl) (by kernel_rfl) (fun _ _ _ h => h) (Or.inl ⟨rfl, ?_⟩) (by assumption) ?_; rotate_left; focus (intro W hSw; (try dsimp only at hSw); obtain ⟨i0, i1, i2, i3⟩ := HX.out _ hSw; go_simp; try (with_reducible rfl))); (try simp only [Act.put, List.getElem_toArray, List.getElem_cons_succ, List.getElem_cons_zero, List.setIfInBounds_toArray, List.set_cons_zero, List.set_cons_succ])
      (refine wpAnyH_take (i := 5) (v := ?_) rfl (by kernel_rfl) (by kernel_rfl) (by kernel_rfl) (fun _ _ _ h => h) (Or.inl ⟨rfl, ?_⟩) (by assumption) ?_; rotate_left; focus (intro W hSw; (try dsimp only at hSw); obtain ⟨i0, i1, i2, i3⟩ := HX.out _ hSw; go_simp; try (with_reducible rfl))); (try simp only [Act.put, List.getElem_toArray, List.getElem_cons_succ, List.getElem_cons_zero, List.setIfInBounds_toArray, List.set_cons_zero, List.set_cons_succ])
      refine wpAnyH_done (by kernel_rfl) ?_ _
      have hst2 := hst _ hHeld
      go_wp2_with fail
      refine bodyPost_ret (v := .tuple #[.string ⟨xs.toArray⟩, .int .i64 0]) (by simp (maxDischargeDepth := 8) [results, Tryd.results61, go_sem, *]) rfl ?_
      exact ⟨by rw [HL.out.1, HL.out.2], below_after hHeld (hbel1.trans (hbel.mono (Nat.le_succ _)))⟩
    · have hB : (u0 + v0 == a && u1 + v1 == b) = false := by
        simp only [Bool.and_eq_false_imp, beq_iff_eq, beq_eq_false_iff_ne]
        intro h1 h2
        exact hpq (hend.2 ⟨h1, h2⟩)
      clear hend f0 f1
      rcases Nat.eq_zero_or_pos m with hm0 | hm0
      · have HL : Hid (V = ⟨#[]⟩ ∧ C = 3) := HN.out (by rw [← HM.out, hm0, ptN_none (fun h => hpq h.symm)]; rfl)
        have h60 : ((xs.length : Int) == 60) = true := by simp; omega
        go_upto_region 3 with fail
        refine wp_region_held_drew (S := fun W => Below wr.heap.size wr W) (by kernel_rfl) ?_ (fun hHeld => ?_); focus ((try dsimp only); exact (Below.refl _ _).drew)
        have hHeld : Below wr.heap.size wr _ := hHeld
        obtain ⟨wA, hwA⟩ : ∃ wD, wr.drew = wD := ⟨_, rfl⟩
        rw [hwA] at hHeld ⊢
        clear hwA
        (refine wpAnyH_take (i := 0) (v := ?_) rfl (by kernel_rfl) (by kernel_rfl) (by kernel_rfl) (fun _ _ _ h => h) (Or.inl ⟨rfl, ?_⟩) (by assumption) ?_; rotate_left; focus (intro W hSw; (try dsimp only at hSw); obtain ⟨i0, i1, i2, i3⟩ := HX.out _ hSw; go_simp; try (with_reducible rfl))); (try simp only [Act.put, List.getElem_toArray, List.getElem_cons_succ, List.getElem_cons_zero, List.setIfInBounds_toArray, List.set_cons_zero, List.set_cons_succ])
        (refine wpAnyH_take (i := 1) (v := ?_) rfl (by kernel_rfl) (by kernel_rfl) (by kernel_rfl) (fun _ _ _ h => h) (Or.inl ⟨rfl, ?_⟩) (by assumption) ?_; rotate_left; focus (intro W hSw; (try dsimp only at hSw); obtain ⟨i0, i1, i2, i3⟩ := HX.out _ hSw; go_simp; try (with_reducible rfl))); (try simp only [Act.put, List.getElem_toArray, List.getElem_cons_succ, List.getElem_cons_zero, List.setIfInBounds_toArray, List.set_cons_zero, List.set_cons_succ])
        (refine wpAnyH_take (i := 2) (v := ?_) rfl (by kernel_rfl) (by kernel_rfl) (by kernel_rfl) (fun _ _ _ h => h) (Or.inl ⟨rfl, ?_⟩) (by assumption) ?_; rotate_left; focus (intro W hSw; (try dsimp only at hSw); obtain ⟨i0, i1, i2, i3⟩ := HX.out _ hSw; go_simp; try (with_reducible rfl))); (try simp only [Act.put, List.getElem_toArray, List.getElem_cons_succ, List.getElem_cons_zero, List.setIfInBounds_toArray, List.set_cons_zero, List.set_cons_succ])
        (refine wpAnyH_take (i := 3) (v := ?_) rfl (by kernel_rfl) (by kernel_rfl) (by kernel_rfl) (fun _ _ _ h => h) (Or.inl ⟨rfl, ?_⟩) (by assumption) ?_; rotate_left; focus (intro W hSw; (try dsimp only at hSw); obtain ⟨i0, i1, i2, i3⟩ := HX.out _ hSw; go_simp; try (with_reducible rfl))); (try simp only [Act.put, List.getElem_toArray, List.getElem_cons_succ, List.getElem_cons_zero, List.setIfInBounds_toArray, List.set_cons_zero, List.set_cons_succ])
        (refine wpAnyH_take (i := 4) (v := ?_) rfl (by kernel_rfl) (by kernel_rfl) (by kernel_rfl) (fun _ _ _ h => h) (Or.inl ⟨rfl, ?_⟩) (by assumption) ?_; rotate_left; focus (intro W hSw; (try dsimp only at hSw); obtain ⟨i0, i1, i2, i3⟩ := HX.out _ hSw; go_simp; try (with_reducible rfl))); (try simp only [Act.put, List.getElem_toArray, List.getElem_cons_succ, List.getElem_cons_zero, List.setIfInBounds_toArray, List.set_cons_zero, List.set_cons_succ])
        (refine wpAnyH_take (i := 5) (v := ?_) rfl (by kernel_rfl) (by kernel_rfl) (by kernel_rfl) (fun _ _ _ h => h) (Or.inl ⟨rfl, ?_⟩) (by assumption) ?_; rotate_left; focus (intro W hSw; (try dsimp only at hSw); obtain ⟨i0, i1, i2, i3⟩ := HX.out _ hSw; go_simp; try (with_reducible rfl))); (try simp only [Act.put, List.getElem_toArray, List.getElem_cons_succ, List.getElem_cons_zero, List.setIfInBounds_toArray, List.set_cons_zero, List.set_cons_succ])
        refine wpAnyH_done (by kernel_rfl) ?_ _
        go_wp2_with fail
        refine bodyPost_ret (v := .tuple #[.string ⟨#[]⟩, .int .i64 3]) (by simp (maxDischargeDepth := 8) [results, Tryd.results61, go_sem, *]) rfl ?_
        exact ⟨by rw [HL.out.1, HL.out.2], below_after hHeld (hbel1.trans (hbel.mono (Nat.le_succ _)))⟩
      · have h60 : ((xs.length : Int) == 60) = false := by simp; omega
        have hbd := sp_bd HSP.out
        obtain ⟨s1, s2, s3, s4⟩ := sp_pos HSP.out
        have hBB := HB.out
        have HC : Hid (∀ w, Calls Tryd.prog 89 #[.agg #[.int .i64 a, .int .i64 b], .agg #[.int .i64 (u0 + v0), .int .i64 (u1 + v1)]] w fun e w' => e = .returned (.int .i64 (q - p)) ∧ Below w.heap.size w w') := fun w => by
          have := determinant_any a b (u0 + v0) (u1 + v1) w ⟨by omega, by omega⟩ ⟨by omega, by omega⟩ ⟨by omega, by omega⟩ ⟨by omega, by omega⟩
          unfold detP at this
          simp only at this
          rw [sp_det HSP.out] at this
          exact this
        have HW : Hid ((Wn u0 ∧ Wn u1) ∧ (Wn v0 ∧ Wn v1) ∧ (Wn (u0 + v0) ∧ Wn (u1 + v1))) := by
          refine ⟨⟨⟨?_, ?_⟩, ⟨?_, ?_⟩⟩, ⟨⟨?_, ?_⟩, ⟨?_, ?_⟩⟩, ⟨?_, ?_⟩, ⟨?_, ?_⟩⟩ <;> omega
        obtain ⟨m', hm'⟩ : ∃ m', m = m' + 1 := ⟨m - 1, by omega⟩
        clear hbd s1 s2 s3 s4 hBB
        go_upto_region 3 with fail
        refine wp_region_held_drew (S := fun W => Below wr.heap.size wr W) (by kernel_rfl) ?_ (fun hHeld => ?_); focus ((try dsimp only); exact (Below.refl _ _).drew)
        have hHeld : Below wr.heap.size wr _ := hHeld
        obtain ⟨wA, hwA⟩ : ∃ wD, wr.drew = wD := ⟨_, rfl⟩
        rw [hwA] at hHeld ⊢
        clear hwA
        (refine wpAnyH_take (i := 0) (v := ?_) rfl (by kernel_rfl) (by kernel_rfl) (by kernel_rfl) (fun _ _ _ h => h) (Or.inl ⟨rfl, ?_⟩) (by assumption) ?_; rotate_left; focus (intro W hSw; (try dsimp only at hSw); obtain ⟨i0, i1, i2, i3⟩ := HX.out _ hSw; go_simp; try (with_reducible rfl))); (try simp only [Act.put, List.getElem_toArray, List.getElem_cons_succ, List.getElem_cons_zero, List.setIfInBounds_toArray, List.set_cons_zero, List.set_cons_succ])
        (refine wpAnyH_take (i := 1) (v := ?_) rfl (by kernel_rfl) (by kernel_rfl) (by kernel_rfl) (fun _ _ _ h => h) (Or.inl ⟨rfl, ?_⟩) (by assumption) ?_; rotate_left; focus (intro W hSw; (try dsimp only at hSw); obtain ⟨i0, i1, i2, i3⟩ := HX.out _ hSw; go_simp; try (with_reducible rfl))); (try simp only [Act.put, List.getElem_toArray, List.getElem_cons_succ, List.getElem_cons_zero, List.setIfInBounds_toArray, List.set_cons_zero, List.set_cons_succ])
        (refine wpAnyH_take (i := 2) (v := ?_) rfl (by kernel_rfl) (by kernel_rfl) (by kernel_rfl) (fun _ _ _ h => h) (Or.inl ⟨rfl, ?_⟩) (by assumption) ?_; rotate_left; focus (intro W hSw; (try dsimp only at hSw); obtain ⟨i0, i1, i2, i3⟩ := HX.out _ hSw; go_simp; try (with_reducible rfl))); (try simp only [Act.put, List.getElem_toArray, List.getElem_cons_succ, List.getElem_cons_zero, List.setIfInBounds_toArray, List.set_cons_zero, List.set_cons_succ])
        (refine wpAnyH_take (i := 3) (v := ?_) rfl (by kernel_rfl) (by kernel_rfl) (by kernel_rfl) (fun _ _ _ h => h) (Or.inl ⟨rfl, ?_⟩) (by assumption) ?_; rotate_left; focus (intro W hSw; (try dsimp only at hSw); obtain ⟨i0, i1, i2, i3⟩ := HX.out _ hSw; go_simp; try (with_reducible rfl))); (try simp only [Act.put, List.getElem_toArray, List.getElem_cons_succ, List.getElem_cons_zero, List.setIfInBounds_toArray, List.set_cons_zero, List.set_cons_succ])
        (refine wpAnyH_take (i := 4) (v := ?_) rfl (by kernel_rfl) (by kernel_rfl) (by kernel_rfl) (fun _ _ _ h => h) (Or.inl ⟨rfl, ?_⟩) (by assumption) ?_; rotate_left; focus (intro W hSw; (try dsimp only at hSw); obtain ⟨i0, i1, i2, i3⟩ := HX.out _ hSw; go_simp; try (with_reducible rfl))); (try simp only [Act.put, List.getElem_toArray, List.getElem_cons_succ, List.getElem_cons_zero, List.setIfInBounds_toArray, List.set_cons_zero, List.set_cons_succ])
        (refine wpAnyH_take (i := 5) (v := ?_) rfl (by kernel_rfl) (by kernel_rfl) (by kernel_rfl) (fun _ _ _ h => h) (Or.inl ⟨rfl, ?_⟩) (by assumption) ?_; rotate_left; focus (intro W hSw; (try dsimp only at hSw); obtain ⟨i0, i1, i2, i3⟩ := HX.out _ hSw; go_simp; try (with_reducible rfl))); (try simp only [Act.put, List.getElem_toArray, List.getElem_cons_succ, List.getElem_cons_zero, List.setIfInBounds_toArray, List.set_cons_zero, List.set_cons_succ])
        refine wpAnyH_done (by kernel_rfl) ?_ _
        go_upto_region 7 with fail
        have HXD : Hid (∀ W, Below wA.heap.size wA W → W.cell? ⟨n, 0, none⟩ = some (.int .i64 (u0 + v0)) ∧ W.cell? ⟨n, 1, none⟩ = some (.int .i64 (u1 + v1)) ∧ W.cell? ⟨w.heap.size, 0, none⟩ = some (.int .i64 a) ∧ W.cell? ⟨w.heap.size, 1, none⟩ = some (.int .i64 b)) := fun W hW => HX.out W (below_after hW hHeld)
        have HD := Lib.hid hHeld
        clear hHeld
        refine wp_region_held_drew (S := fun W => Below wA.heap.size wA W) (by kernel_rfl) ?_ (fun hHeld => ?_); focus ((try dsimp only); exact (Below.refl _ _).drew)
        have hHeld : Below wA.heap.size wA _ := hHeld
        obtain ⟨wE, hwE⟩ : ∃ wD, wA.drew = wD := ⟨_, rfl⟩
        rw [hwE] at hHeld ⊢
        clear hwE
        (refine wpAnyH_take (i := 0) (v := ?_) rfl (by kernel_rfl) (by kernel_rfl) (by kernel_rfl) (fun _ _ _ h => h) (Or.inl ⟨rfl, ?_⟩) (by assumption) ?_; rotate_left; focus (intro W hSw; (try dsimp only at hSw); obtain ⟨i0, i1, i2, i3⟩ := HXD.out _ hSw; go_simp; try (with_reducible rfl))); (try simp only [Act.put, List.getElem_toArray, List.getElem_cons_succ, List.getElem_cons_zero, List.setIfInBounds_toArray, List.set_cons_zero, List.set_cons_succ])
        (refine wpAnyH_take (i := 1) (v := ?_) rfl (by kernel_rfl) (by kernel_rfl) (by kernel_rfl) (fun _ _ _ h => h) (Or.inl ⟨rfl, ?_⟩) (by assumption) ?_; rotate_left; focus (intro W hSw; (try dsimp only at hSw); obtain ⟨i0, i1, i2, i3⟩ := HXD.out _ hSw; go_simp; try (with_reducible rfl))); (try simp only [Act.put, List.getElem_toArray, List.getElem_cons_succ, List.getElem_cons_zero, List.setIfInBounds_toArray, List.set_cons_zero, List.set_cons_succ])
        (refine wpAnyH_take (i := 2) (v := ?_) rfl (by kernel_rfl) (by kernel_rfl) (by kernel_rfl) (fun _ _ _ h => h) (Or.inl ⟨rfl, ?_⟩) (by assumption) ?_; rotate_left; focus (intro W hSw; (try dsimp only at hSw); obtain ⟨i0, i1, i2, i3⟩ := HXD.out _ hSw; go_simp; try (with_reducible rfl))); (try simp only [Act.put, List.getElem_toArray, List.getElem_cons_succ, List.getElem_cons_zero, List.setIfInBounds_toArray, List.set_cons_zero, List.set_cons_succ])
        (refine wpAnyH_take (i := 3) (v := ?_) rfl (by kernel_rfl) (by kernel_rfl) (by kernel_rfl) (fun _ _ _ h => h) (Or.inl ⟨rfl, ?_⟩) (by assumption) ?_; rotate_left; focus (intro W hSw; (try dsimp only at hSw); obtain ⟨i0, i1, i2, i3⟩ := HXD.out _ hSw; go_simp; try (with_reducible rfl))); (try simp only [Act.put, List.getElem_toArray, List.getElem_cons_succ, List.getElem_cons_zero, List.setIfInBounds_toArray, List.set_cons_zero, List.set_cons_succ])
        (refine wpAnyH_take (i := 4) (v := ?_) rfl (by kernel_rfl) (by kernel_rfl) (by kernel_rfl) (fun _ _ _ h => h) (Or.inl ⟨rfl, ?_⟩) (by assumption) ?_; rotate_left; focus (intro W hSw; (try dsimp only at hSw); obtain ⟨i0, i1, i2, i3⟩ := HXD.out _ hSw; go_simp; try (with_reducible rfl))); (try simp only [Act.put, List.getElem_toArray, List.getElem_cons_succ, List.getElem_cons_zero, List.setIfInBounds_toArray, List.set_cons_zero, List.set_cons_succ])
        refine wpAnyH_ready (rs := [5]) (by kernel_rfl) (by simp) ?_; refine AllReadyH.cons rfl (fun K hK => ?_) AllReadyH.nil
        go_simp; (go_at_call 89; refine (HC.out _).mono ?_; rintro en yw ⟨rfl, hb2⟩); refine hK.out _ _ (below_after hb2 hHeld) (fun hHeld2 => ?_); clear hb2; (clear hHeld; rename _ => hHeld; clear hK K; have hHeld : Below wA.heap.size wA _ := hHeld); (try simp only [Act.put, List.getElem_toArray, List.getElem_cons_succ, List.getElem_cons_zero, List.setIfInBounds_toArray, List.set_cons_zero, List.set_cons_succ])
        (refine wpAnyH_take (i := 6) (v := ?_) rfl (by kernel_rfl) (by kernel_rfl) (by kernel_rfl) (fun _ _ _ h => h) (Or.inl ⟨rfl, ?_⟩) (by assumption) ?_; rotate_left; focus (intro W hSw; (try dsimp only at hSw); skip; go_simp; try (with_reducible rfl))); (try simp only [Act.put, List.getElem_toArray, List.getElem_cons_succ, List.getElem_cons_zero, List.setIfInBounds_toArray, List.set_cons_zero, List.set_cons_succ])
        refine wpAnyH_done (by kernel_rfl) ?_ _
        have HE := Lib.hid (below_after hHeld (show Below wr.heap.size wr wA from HD.out))
        clear hHeld
        by_cases hlt : p < q
        · have hdt : decide (p < q) = true := by simpa using hlt
          have HM2 : Hid ((ptN m' (q - p) p).map ((xs ++ [82]) ++ ·) = R) := by
            show _ = R
            rw [← HM.out, hm', ptN_R hlt, map_pre]
          have hc3 : xs.length + 1 ≤ maxLen := by unfold maxLen; omega
          have hc4 : (xs.length + 1) * 1 ≤ 140737488355328 := by omega
          go_wp2_with (at_builtin; refine wpList_append_own_at _ rfl _ _ 97 rfl (w.heap.size + 1) 5 i0 (.int .u8 0) 1 1 Tryd.underlying97 hi iz0 iz1 iz2 rfl (by decide) _ _ _ rfl (World.ownsRow.alloc (HO.out.below HE.out) _) ⟨yw.heap.size, 0, none⟩ 1 1 [byC 82] rfl rfl (cell_one_new _ _ _) (fun u hu => by simp at hu; subst hu; rfl) hc3 hc4 (by have := HE.out.size; simp only [World.size_alloc]; omega) ?_; intro v' w5 hown5 hgrow hnil hat)
          have hEA := HE.out.alloc HE.out.size (.cells #[byC 82] 5)
          have hlE := HE.out.size
          obtain ⟨ln, ll, lg⟩ := HNX.out.lt
          have hnx5 : Nx w5 n l g (u0 + v0) (u1 + v1) u0 u1 v0 v1 := (HNX.out.below hEA).kept hgrow (fun h => (HNE.out n h.symm).1 rfl) (fun h => (HNE.out l h.symm).2.1 rfl) (fun h => (HNE.out g h.symm).2.2 rfl)
          have hbel5 : Below (w.heap.size + 1) w1 w5 := Below.grown (hbel.trans (hEA.mono (by omega))) hgrow (by simp only [World.size_alloc]; omega) (fun k hk => (HO.out.bk k hk).1)
          have hO5 : OwnY (w.heap.size + 1) w5 v' (xs ++ [82]) := by
            show w5.ownsRow (w.heap.size + 1) 5 1 v' (xs ++ [82]).length ((xs ++ [82]).map byC)
            rw [List.length_append, List.map_append]; exact hown5
          have hk5 : ∀ k, v'.ownBlock = some k → k ≠ n ∧ k ≠ l ∧ k ≠ g := fun k hk => by
            rcases hat with h | h
            · exact HNE.out k (h.symm.trans hk)
            · rw [h] at hk
              simp only [Option.some.injEq, World.size_alloc] at hk
              omega
          have HP5 : Hid (Nx w5 n l g (u0 + v0) (u1 + v1) u0 u1 v0 v1 ∧ Below (w.heap.size + 1) w1 w5 ∧ OwnY (w.heap.size + 1) w5 v' (xs ++ [82]) ∧ ∀ k, v'.ownBlock = some k → k ≠ n ∧ k ≠ l ∧ k ≠ g) := ⟨hnx5, hbel5, hO5, hk5⟩
          clear hnx5 hbel5 hO5 hk5 hEA hown5 hgrow hnil hat ln ll lg hlE
          go_wp2_with fail
          go_at_call 65
          refine (turns_any _).mono ?_
          rintro e w6 ⟨rfl, hb6⟩
          go_wp2_with fail
          go_at_call 113
          refine (right_x n l g _ _ _ _ _ _ _ (HP5.out.1.below hb6) HW.out.2.2.1 HW.out.2.2.2 HW.out.2.1.1 HW.out.2.1.2).mono ?_
          rintro e w7 ⟨n', rfl, hn7, hle7, hb7⟩
          go_wp2_with fail
          have hz5 := HP5.out.2.1.size
          have hz6 := hb6.size
          have le7 : w.heap.size + 1 ≤ n' := by omega
          go_roundw
          case rel =>
            refine ⟨n', n, g, m', u0 + v0, u1 + v1, v0, v1, p, q - p, xs ++ [82], rfl, hn7, le7, kn1, kg1, sp_right HSP.out hlt, by rw [List.length_append]; simp; omega, HM2.out, (HP5.out.2.2.1.below hb6).below hb7, ?_, (HP5.out.2.1.trans (hb6.mono (by omega))).trans (hb7.mono (by omega))⟩
            intro k hk
            obtain ⟨k0, k1, k2⟩ := HP5.out.2.2.2 k hk
            have := (HP5.out.2.2.1.bk k hk).2
            exact ⟨by omega, k0, k2⟩
          case measure =>
            have hl5 := HP5.out.2.2.1.len
            rw [List.length_append] at hl5
            simp only [hl5, hln]
            simp; omega
        · have hgt : q < p := by omega
          have hdf : decide (p < q) = false := by simpa using hlt
          have HM2 : Hid ((ptN m' q (p - q)).map ((xs ++ [76]) ++ ·) = R) := by
            show _ = R
            rw [← HM.out, hm', ptN_L hgt, map_pre]
          have hc3 : xs.length + 1 ≤ maxLen := by unfold maxLen; omega
          have hc4 : (xs.length + 1) * 1 ≤ 140737488355328 := by omega
          go_wp2_with (at_builtin; refine wpList_append_own_at _ rfl _ _ 97 rfl (w.heap.size + 1) 5 i0 (.int .u8 0) 1 1 Tryd.underlying97 hi iz0 iz1 iz2 rfl (by decide) _ _ _ rfl (World.ownsRow.alloc (HO.out.below HE.out) _) ⟨yw.heap.size, 0, none⟩ 1 1 [byC 76] rfl rfl (cell_one_new _ _ _) (fun u hu => by simp at hu; subst hu; rfl) hc3 hc4 (by have := HE.out.size; simp only [World.size_alloc]; omega) ?_; intro v' w5 hown5 hgrow hnil hat)
          have hEA := HE.out.alloc HE.out.size (.cells #[byC 76] 5)
          have hlE := HE.out.size
          obtain ⟨ln, ll, lg⟩ := HNX.out.lt
          have hnx5 : Nx w5 n l g (u0 + v0) (u1 + v1) u0 u1 v0 v1 := (HNX.out.below hEA).kept hgrow (fun h => (HNE.out n h.symm).1 rfl) (fun h => (HNE.out l h.symm).2.1 rfl) (fun h => (HNE.out g h.symm).2.2 rfl)
          have hbel5 : Below (w.heap.size + 1) w1 w5 := Below.grown (hbel.trans (hEA.mono (by omega))) hgrow (by simp only [World.size_alloc]; omega) (fun k hk => (HO.out.bk k hk).1)
          have hO5 : OwnY (w.heap.size + 1) w5 v' (xs ++ [76]) := by
            show w5.ownsRow (w.heap.size + 1) 5 1 v' (xs ++ [76]).length ((xs ++ [76]).map byC)
            rw [List.length_append, List.map_append]; exact hown5
          have hk5 : ∀ k, v'.ownBlock = some k → k ≠ n ∧ k ≠ l ∧ k ≠ g := fun k hk => by
            rcases hat with h | h
            · exact HNE.out k (h.symm.trans hk)
            · rw [h] at hk
              simp only [Option.some.injEq, World.size_alloc] at hk
              omega
          have HP5 : Hid (Nx w5 n l g (u0 + v0) (u1 + v1) u0 u1 v0 v1 ∧ Below (w.heap.size + 1) w1 w5 ∧ OwnY (w.heap.size + 1) w5 v' (xs ++ [76]) ∧ ∀ k, v'.ownBlock = some k → k ≠ n ∧ k ≠ l ∧ k ≠ g) := ⟨hnx5, hbel5, hO5, hk5⟩
          clear hnx5 hbel5 hO5 hk5 hEA hown5 hgrow hnil hat ln ll lg hlE
          go_wp2_with fail
          go_at_call 65
          refine (turns_any _).mono ?_
          rintro e w6 ⟨rfl, hb6⟩
          go_wp2_with fail
          go_at_call 112
          refine (left_x n l g _ _ _ _ _ _ _ (HP5.out.1.below hb6) HW.out.2.2.1 HW.out.2.2.2 HW.out.1.1 HW.out.1.2).mono ?_
          rintro e w7 ⟨n', rfl, hn7, hle7, hb7⟩
          go_wp2_with fail
          have hz5 := HP5.out.2.1.size
          have hz6 := hb6.size
          have le7 : w.heap.size + 1 ≤ n' := by omega
          go_roundw
          case rel =>
            refine ⟨n', l, n, m', u0, u1, u0 + v0, u1 + v1, p - q, q, xs ++ [76], rfl, (by have := hn7; rw [Int.add_comm (u0 + v0) u0, Int.add_comm (u1 + v1) u1] at this; exact this), le7, kl1, kn1, sp_left HSP.out hgt, by rw [List.length_append]; simp; omega, HM2.out, (HP5.out.2.2.1.below hb6).below hb7, ?_, (HP5.out.2.1.trans (hb6.mono (by omega))).trans (hb7.mono (by omega))⟩
            intro k hk
            obtain ⟨k0, k1, k2⟩ := HP5.out.2.2.2 k hk
            have := (HP5.out.2.2.1.bk k hk).2
            exact ⟨by omega, k1, k0⟩
          case measure =>
            have hl5 := HP5.out.2.2.1.len
            rw [List.length_append] at hl5
            simp only [hl5, hln]
            simp; omega
end Go.Proofs.YtcaleapedomfmaaDoor
