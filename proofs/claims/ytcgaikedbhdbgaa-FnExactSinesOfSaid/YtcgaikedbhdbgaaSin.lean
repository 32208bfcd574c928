/-
  SinesOf in the program and in the model (own work).
-/
import Derived.Test.YtcgaikedbhdbgaaTri4
import Derived.Test.YtcgaikedbhdbgaaOwn
import Derived.Test.YtcgaikedbhdbgaaBlk
namespace Go.Proofs.Ytcgaikedbhdbgaa
open Go.ChangeShapes Go.WideShapes Go.ChangeAt Go.RowKit
set_option linter.unusedVariables false
set_option maxRecDepth 100000
set_option linter.unusedSimpArgs false
set_option maxRecDepth 100000

/-- The sine of the corner at the first point. -/
def snT (x0 y0 x1 y1 x2 y2 : Int) : Int := sinI (cnT x0 y0 x1 y1 x2 y2).1.1 (cnT x0 y0 x1 y1 x2 y2).1.2 (cnT x0 y0 x1 y1 x2 y2).2.1 (cnT x0 y0 x1 y1 x2 y2).2.2
def sn3 (x0 y0 x1 y1 x2 y2 : Int) : List Int := [snT x0 y0 x1 y1 x2 y2, snT x1 y1 x2 y2 x0 y0, snT x2 y2 x0 y0 x1 y1]
def siL (x0 y0 x1 y1 x2 y2 : Int) : List Int := if isT x0 y0 x1 y1 x2 y2 = true then sn3 x0 y0 x1 y1 x2 y2 else []
theorem siL_yes {x0 y0 x1 y1 x2 y2 : Int} (h : isT x0 y0 x1 y1 x2 y2 = true) : siL x0 y0 x1 y1 x2 y2 = sn3 x0 y0 x1 y1 x2 y2 := if_pos h
theorem siL_no {x0 y0 x1 y1 x2 y2 : Int} (h : isT x0 y0 x1 y1 x2 y2 = false) : siL x0 y0 x1 y1 x2 y2 = [] := if_neg (by rw [h]; decide)
theorem siL_len (x0 y0 x1 y1 x2 y2 : Int) : (siL x0 y0 x1 y1 x2 y2).length ≤ 8388608 := by unfold siL; split <;> simp [sn3]
theorem cn_pts {x0 y0 x1 y1 x2 y2 : Int} (h : isT x0 y0 x1 y1 x2 y2 = true) : isPt ((cnT x0 y0 x1 y1 x2 y2).1.1, (cnT x0 y0 x1 y1 x2 y2).1.2) = true ∧ isPt ((cnT x0 y0 x1 y1 x2 y2).2.1, (cnT x0 y0 x1 y1 x2 y2).2.2) = true := by
  obtain ⟨s0, s1, s2, s3, s4, s5, _⟩ := isT_iff.1 h
  exact ⟨(primP_ok (sub_pt s0 s1 s2 s3) (tri_ne h)).1, (primP_ok (sub_pt s0 s1 s4 s5) (tri_ne (isT_sw h))).1⟩
/-- A list that grows by literals of the call's own. -/
theorem wpList_app_own (w0 : World) {W : World} {ops : Array Oper} {rest : List Oper} {o : Oper} {a : Act} {Q : Exit → Act → World → Prop} (hgd : o.guard = none) (s x : Operand)
    (ho : o.op = .call { callee := .builtin .append, args := #[s, x], argTypes := #[43, 43] })
    {v : Value} {xs ys : List Int} {g c : Nat} (hown : OwnI w0.heap.size W v xs) (hsrc : ∀ j, j < ys.length → W.cell? ⟨g, j, none⟩ = some (.int .i64 (ys.getD j 0))) (hb : Below w0.heap.size w0 W) (hs : a.eval s = v) (hx : a.eval x = .slice (some ⟨g, 0, none⟩) ys.length c) (hlen : xs.length + ys.length ≤ 8388608)
    (hK : ∀ v' w', OwnI w0.heap.size w' v' (xs ++ ys) → Below w0.heap.size w0 w' → wpList Try.prog ops Q rest (a.put o.dst v') w') : wpList Try.prog ops Q (o :: rest) a W := by
  obtain ⟨i0, hi, hz0, hz1, hz2⟩ := info_parts info_int
  refine wpList_append_own _ hgd s x 43 ho w0.heap.size 2 i0 (.int .i64 0) 1 8 Try.underlying43 hi hz0 hz1 hz2 rfl (by decide) v _ _ hs hown ⟨g, 0, none⟩ ys.length c (ys.map (Value.int .i64)) hx ?_ ?_ ?_ ?_ ?_ hb.size ?_
  · rw [List.length_map]; omega
  · intro j u hj
    rw [List.getElem?_map] at hj
    cases hy : ys[j]? with
    | none => rw [hy] at hj; cases hj
    | some y =>
      rw [hy] at hj
      cases hj
      have hjm := (List.getElem?_eq_some_iff.1 hy).1
      have e : (Addr.add ⟨g, 0, none⟩ j) = ⟨g, j, none⟩ := by unfold Addr.add; split <;> simp_all
      rw [e, hsrc j hjm]
      simp [List.getD, hy]
  · intro u hu; simp only [List.mem_map] at hu; obtain ⟨y, _, rfl⟩ := hu; rfl
  · unfold maxLen; omega
  · omega
  · intro v' w' h1 h2 _
    refine hK v' w' ?_ (hb.grown h2 hb.size (fun k hk => (hown.lt k hk).1))
    show w'.ownsRow w0.heap.size 2 1 v' (xs ++ ys).length ((xs ++ ys).map (Value.int .i64))
    rw [List.length_append, List.map_append]; exact h1
set_option maxHeartbeats 4000000 in
theorem spec_SinesOf_any (x0 y0 x1 y1 x2 y2 : Int) (w : World) : Calls Try.prog 34 #[.agg #[.int .i64 x0, .int .i64 y0, .int .i64 x1, .int .i64 y1, .int .i64 x2, .int .i64 y2]] w fun e w' => ∃ v, e = .returned (.tuple #[v, .int .i64 (tC x0 y0 x1 y1 x2 y2)]) ∧ OwnI w.heap.size w' v (siL x0 y0 x1 y1 x2 y2) ∧ Below w.heap.size w w' := by
  cases h : isT x0 y0 x1 y1 x2 y2
  · rw [tC_no h, siL_no h]
    have hs20 : w.heap.size < w.heap.size + 1 + 1 := (by omega); have hs30 : w.heap.size < w.heap.size + 1 + 1 + 1 := (by omega); have hs31 : w.heap.size + 1 < w.heap.size + 1 + 1 + 1 := (by omega); have hs40 : w.heap.size < w.heap.size + 1 + 1 + 1 + 1 := (by omega); have hs41 : w.heap.size + 1 < w.heap.size + 1 + 1 + 1 + 1 := (by omega); have hs42 : w.heap.size + 1 + 1 < w.heap.size + 1 + 1 + 1 + 1 := (by omega)
    go_enter Try.func34, Try.ntmps34
    go_wp2_with (first | (go_at_call 62; refine (l04Is_any _ _ _ _ _ _ _).mono ?_; rintro e wn ⟨rfl, hb⟩; first | (have h2 := after_call2 hb hcl hfr hlt (by ((repeat' (first | (with_reducible exact Below.refl _ _) | (with_reducible refine Below.alloc ?_ ?_ _) | (with_reducible refine Below.setCell ?_ ?_ _) | (with_reducible refine Below.drew ?_) | (with_reducible refine below_drewN ?_ _) | (with_reducible assumption) | (with_reducible refine below_after (by with_reducible assumption) ?_) | go_size)); done)); obtain ⟨hclx, hfrx, hltx, hsz⟩ := after_call hb; (try simp only [World.size_alloc, World.size_setCell, World.size_drew] at hclx hfrx hltx hsz); (try (have hszl := Nat.lt_of_succ_le hsz)); obtain ⟨hcl, hfr, hlt⟩ := h2) | (obtain ⟨hcl, hfr, hlt, hsz⟩ := after_call hb; (try simp only [World.size_alloc, World.size_setCell, World.size_drew] at hcl hfr hlt hsz))))
    refine bodyPost_ret (v := .tuple #[.slice none 0 0, .int .i64 1]) (by simp (maxDischargeDepth := 8) [results, Try.results34, go_sem, *]) rfl ?_
    exact ⟨_, rfl, World.ownsRow_nil _ _ _ _, by (repeat' (first | (with_reducible exact Below.refl _ _) | (with_reducible refine Below.alloc ?_ ?_ _) | (with_reducible refine Below.setCell ?_ ?_ _) | (with_reducible refine Below.drew ?_) | (with_reducible refine below_drewN ?_ _) | (with_reducible assumption) | (with_reducible refine below_after (by with_reducible assumption) ?_) | go_size))⟩
  · rw [tC_yes h, siL_yes h]
    have HT := Lib.hid h
    clear h
    have hcr : ∀ j : Nat, j < 3 → True := fun _ _ => trivial
    clear hcr
    go_enter Try.func34, Try.ntmps34
    go_upto_region 1 with fail
    obtain ⟨wB, hwB⟩ : ∃ wB, wB = w.alloc (.cells #[.int .i64 x0, .int .i64 y0, .int .i64 x1, .int .i64 y1, .int .i64 x2, .int .i64 y2] 27) := ⟨_, rfl⟩
    rw [← hwB]
    have HBW : Hid (Below w.heap.size w wB) := by
      show Below w.heap.size w wB
      rw [hwB]; (repeat' (first | (with_reducible exact Below.refl _ _) | (with_reducible refine Below.alloc ?_ ?_ _) | (with_reducible refine Below.setCell ?_ ?_ _) | (with_reducible refine Below.drew ?_) | (with_reducible refine below_drewN ?_ _) | (with_reducible assumption) | (with_reducible refine below_after (by with_reducible assumption) ?_) | go_size))
    have HK : Hid (∀ W', Below wB.heap.size wB W' → W'.cell? ⟨w.heap.size, 0, none⟩ = some (.int .i64 x0) ∧ W'.cell? ⟨w.heap.size, 1, none⟩ = some (.int .i64 y0) ∧ W'.cell? ⟨w.heap.size, 2, none⟩ = some (.int .i64 x1) ∧ W'.cell? ⟨w.heap.size, 3, none⟩ = some (.int .i64 y1) ∧ W'.cell? ⟨w.heap.size, 4, none⟩ = some (.int .i64 x2) ∧ W'.cell? ⟨w.heap.size, 5, none⟩ = some (.int .i64 y2) ∧ w.heap.size < W'.heap.size) := by
      intro W' hB
      have hz := hB.size
      have hbs : wB.heap.size = w.heap.size + 1 := by rw [hwB]; simp
      refine ⟨?_, ?_, ?_, ?_, ?_, ?_, by omega⟩
      all_goals (rw [hB.cell (p := ⟨w.heap.size, _, none⟩) (by rw [hbs]; exact Nat.lt_succ_self _), hwB]; go_cell)
    clear hwB
    obtain ⟨s0, s1, s2, s3, s4, s5, sz⟩ := HK.out wB (Below.refl _ _)
    go_wp2_with fail
    go_at_call 62
    refine (l04Is_any _ _ _ _ _ _ _).mono ?_
    rw [HT.out]
    rintro e w1 ⟨rfl, b1⟩
    clear s0 s1 s2 s3 s4 s5 sz
    go_wp2_with fail
    go_loopw [4, 5] (fun v i wr => ∃ (j : Nat) (va : Option Addr) (vc : Nat), j ≤ 3 ∧ v = .slice va j vc ∧ i = .int .i64 j ∧ OwnI wB.heap.size wr (.slice va j vc) ((sn3 x0 y0 x1 y1 x2 y2).take j) ∧ Below wB.heap.size wB wr) (fun _ i _ => 3 - (intOf i).toNat)
    case atStart => exact ⟨0, _, _, by omega, rfl, rfl, by first | exact World.ownsRow_made w1 #[] 0 b1.size (Nat.zero_le _) rfl | exact own_up (World.ownsRow_made _ #[] 0 (Nat.le_refl _) (Nat.zero_le _) rfl) b1.size, b1.alloc b1.size _⟩
    case round =>
      obtain ⟨j, va, vc, hj, rfl, rfl, hown, hbel⟩ := hrel
      clear b1
      have HO := Lib.hid hown
      clear hown
      obtain ⟨s0, s1, s2, s3, s4, s5, sz⟩ := HK.out wr hbel
      have hc : j = 0 ∨ j = 1 ∨ j = 2 ∨ j = 3 := by omega
      rcases hc with rfl | rfl | rfl | rfl
      · have HC := Lib.hid (cn_pts HT.out)
        have HO1 : Hid (OwnI wB.heap.size wr (.slice va 0 vc) ((sn3 x0 y0 x1 y1 x2 y2).take 0)) := HO
        go_wp2_with fail
        go_at_call 75
        refine (l04Corner_0 x0 y0 x1 y1 x2 y2 _ HT.out).mono ?_
        rintro e wx ⟨rfl, bx⟩
        have hbx : Below wB.heap.size wB wx := below_after bx hbel
        have HO2 := Lib.hid (HO1.out.below bx)
        clear bx hbel s0 s1 s2 s3 s4 s5 sz
        go_wp2_with fail
        go_at_call 79
        refine (l02Sine_any _ _ _ _ _ HC.out.1 HC.out.2).mono ?_
        rintro e wy ⟨rfl, by1⟩
        have hby : Below wB.heap.size wB wy := below_after by1 hbx
        have HO3 := Lib.hid ((HO2.out.below by1).alloc (.cells #[.int .i64 (snT x0 y0 x1 y1 x2 y2)] 2))
        clear by1 hbx
        have hbz : Below wB.heap.size wB (wy.alloc (.cells #[.int .i64 (snT x0 y0 x1 y1 x2 y2)] 2)) := hby.alloc hby.size _
        have hsn : sinI (cnT x0 y0 x1 y1 x2 y2).1.1 (cnT x0 y0 x1 y1 x2 y2).1.2 (cnT x0 y0 x1 y1 x2 y2).2.1 (cnT x0 y0 x1 y1 x2 y2).2.2 = snT x0 y0 x1 y1 x2 y2 := rfl
        rw [hsn]
        generalize hsv : snT x0 y0 x1 y1 x2 y2 = sv at HO3 hbz hby ⊢
        go_wp2_with (at_builtin; refine wpList_app_own wB rfl _ _ rfl (ys := [sv]) HO3.out ?c1 hbz rfl rfl (by simp [sn3]) ?_)
        case c1 => intro j hj; have : j = 0 := by simpa using hj
                   subst this; go_cell
        intro v' w' ho hb
        have ho' : OwnI wB.heap.size w' v' ((sn3 x0 y0 x1 y1 x2 y2).take (0 + 1)) := by
          rw [← hsv] at ho; exact ho
        obtain ⟨va', vc', rfl, _⟩ := own_view ho'
        have HO4 := Lib.hid ho'
        clear ho ho' hby hbz
        go_wp2
        go_roundw
        case rel => exact ⟨0 + 1, va', vc', by omega, rfl, by go_num, HO4.out, hb⟩
        case measure => simp [intOf]
      · have HC := Lib.hid (cn_pts (isT_rot HT.out))
        have HO1 : Hid (OwnI wB.heap.size wr (.slice va 1 vc) ((sn3 x0 y0 x1 y1 x2 y2).take 1)) := HO
        go_wp2_with fail
        go_at_call 75
        refine (l04Corner_1 x0 y0 x1 y1 x2 y2 _ HT.out).mono ?_
        rintro e wx ⟨rfl, bx⟩
        have hbx : Below wB.heap.size wB wx := below_after bx hbel
        have HO2 := Lib.hid (HO1.out.below bx)
        clear bx hbel s0 s1 s2 s3 s4 s5 sz
        go_wp2_with fail
        go_at_call 79
        refine (l02Sine_any _ _ _ _ _ HC.out.1 HC.out.2).mono ?_
        rintro e wy ⟨rfl, by1⟩
        have hby : Below wB.heap.size wB wy := below_after by1 hbx
        have HO3 := Lib.hid ((HO2.out.below by1).alloc (.cells #[.int .i64 (snT x1 y1 x2 y2 x0 y0)] 2))
        clear by1 hbx
        have hbz : Below wB.heap.size wB (wy.alloc (.cells #[.int .i64 (snT x1 y1 x2 y2 x0 y0)] 2)) := hby.alloc hby.size _
        have hsn : sinI (cnT x1 y1 x2 y2 x0 y0).1.1 (cnT x1 y1 x2 y2 x0 y0).1.2 (cnT x1 y1 x2 y2 x0 y0).2.1 (cnT x1 y1 x2 y2 x0 y0).2.2 = snT x1 y1 x2 y2 x0 y0 := rfl
        rw [hsn]
        generalize hsv : snT x1 y1 x2 y2 x0 y0 = sv at HO3 hbz hby ⊢
        go_wp2_with (at_builtin; refine wpList_app_own wB rfl _ _ rfl (ys := [sv]) HO3.out ?c1 hbz rfl rfl (by simp [sn3]) ?_)
        case c1 => intro j hj; have : j = 0 := by simpa using hj
                   subst this; go_cell
        intro v' w' ho hb
        have ho' : OwnI wB.heap.size w' v' ((sn3 x0 y0 x1 y1 x2 y2).take (1 + 1)) := by
          rw [← hsv] at ho; exact ho
        obtain ⟨va', vc', rfl, _⟩ := own_view ho'
        have HO4 := Lib.hid ho'
        clear ho ho' hby hbz
        go_wp2
        go_roundw
        case rel => exact ⟨1 + 1, va', vc', by omega, rfl, by go_num, HO4.out, hb⟩
        case measure => simp [intOf]
      · have HC := Lib.hid (cn_pts (isT_rot (isT_rot HT.out)))
        have HO1 : Hid (OwnI wB.heap.size wr (.slice va 2 vc) ((sn3 x0 y0 x1 y1 x2 y2).take 2)) := HO
        go_wp2_with fail
        go_at_call 75
        refine (l04Corner_2 x0 y0 x1 y1 x2 y2 _ HT.out).mono ?_
        rintro e wx ⟨rfl, bx⟩
        have hbx : Below wB.heap.size wB wx := below_after bx hbel
        have HO2 := Lib.hid (HO1.out.below bx)
        clear bx hbel s0 s1 s2 s3 s4 s5 sz
        go_wp2_with fail
        go_at_call 79
        refine (l02Sine_any _ _ _ _ _ HC.out.1 HC.out.2).mono ?_
        rintro e wy ⟨rfl, by1⟩
        have hby : Below wB.heap.size wB wy := below_after by1 hbx
        have HO3 := Lib.hid ((HO2.out.below by1).alloc (.cells #[.int .i64 (snT x2 y2 x0 y0 x1 y1)] 2))
        clear by1 hbx
        have hbz : Below wB.heap.size wB (wy.alloc (.cells #[.int .i64 (snT x2 y2 x0 y0 x1 y1)] 2)) := hby.alloc hby.size _
        have hsn : sinI (cnT x2 y2 x0 y0 x1 y1).1.1 (cnT x2 y2 x0 y0 x1 y1).1.2 (cnT x2 y2 x0 y0 x1 y1).2.1 (cnT x2 y2 x0 y0 x1 y1).2.2 = snT x2 y2 x0 y0 x1 y1 := rfl
        rw [hsn]
        generalize hsv : snT x2 y2 x0 y0 x1 y1 = sv at HO3 hbz hby ⊢
        go_wp2_with (at_builtin; refine wpList_app_own wB rfl _ _ rfl (ys := [sv]) HO3.out ?c1 hbz rfl rfl (by simp [sn3]) ?_)
        case c1 => intro j hj; have : j = 0 := by simpa using hj
                   subst this; go_cell
        intro v' w' ho hb
        have ho' : OwnI wB.heap.size w' v' ((sn3 x0 y0 x1 y1 x2 y2).take (2 + 1)) := by
          rw [← hsv] at ho; exact ho
        obtain ⟨va', vc', rfl, _⟩ := own_view ho'
        have HO4 := Lib.hid ho'
        clear ho ho' hby hbz
        go_wp2
        go_roundw
        case rel => exact ⟨2 + 1, va', vc', by omega, rfl, by go_num, HO4.out, hb⟩
        case measure => simp [intOf]
      · have HO1 : Hid (OwnI wB.heap.size wr (.slice va 3 vc) (sn3 x0 y0 x1 y1 x2 y2)) := HO
        go_wp2
        refine bodyPost_ret (v := .tuple #[.slice va 3 vc, .int .i64 0]) (by simp (maxDischargeDepth := 8) [results, Try.results34, go_sem, *]) rfl ?_
        exact ⟨_, rfl, own_up HO1.out HBW.out.size, below_after hbel HBW.out⟩
def kvL (x0 y0 x1 y1 x2 y2 : Int) : Nat → List Int
  | 0 => [0, 0, 0]
  | 1 => [snT x0 y0 x1 y1 x2 y2, 0, 0]
  | 2 => [snT x0 y0 x1 y1 x2 y2, snT x1 y1 x2 y2 x0 y0, 0]
  | _ => [snT x0 y0 x1 y1 x2 y2, snT x1 y1 x2 y2 x0 y0, snT x2 y2 x0 y0 x1 y1]
theorem own3_cells {B G : Nat} {W : World} {a b c : Int} (h : OwnI B W (.slice (some ⟨G, 0, none⟩) 3 3) [a, b, c]) : W.cell? ⟨G, 0, none⟩ = some (.int .i64 a) ∧ W.cell? ⟨G, 1, none⟩ = some (.int .i64 b) ∧ W.cell? ⟨G, 2, none⟩ = some (.int .i64 c) ∧ W.frozen? ⟨G, 0, none⟩ = false ∧ W.frozen? ⟨G, 1, none⟩ = false ∧ W.frozen? ⟨G, 2, none⟩ = false ∧ B ≤ G ∧ G < W.heap.size :=
  ⟨World.ownsRow.cellAt h 0 (by decide), World.ownsRow.cellAt h 1 (by decide), World.ownsRow.cellAt h 2 (by decide), World.ownsRow.frozenAt h 0, World.ownsRow.frozenAt h 1, World.ownsRow.frozenAt h 2, (World.ownsRow.lt h G rfl).1, (World.ownsRow.lt h G rfl).2⟩
theorem own3_set {B G : Nat} {W : World} {a b c : Int} (h : OwnI B W (.slice (some ⟨G, 0, none⟩) 3 3) [a, b, c]) (j : Nat) (hj : j < 3) (x : Int) : OwnI B (W.setCell ⟨G, j, none⟩ (.int .i64 x)) (.slice (some ⟨G, 0, none⟩) 3 3) ([a, b, c].set j x) := by
  have q := (World.ownsRow.stored h j (.int .i64 x)).1
  match j, hj with
  | 0, _ => exact q
  | 1, _ => exact q
  | 2, _ => exact q
set_option maxHeartbeats 4000000 in
theorem impl_SinesOf_any (x0 y0 x1 y1 x2 y2 : Int) (w : World) : Calls Try.prog 35 #[.agg #[.int .i64 x0, .int .i64 y0, .int .i64 x1, .int .i64 y1, .int .i64 x2, .int .i64 y2]] w fun e w' => ∃ v, e = .returned (.tuple #[v, .int .i64 (tC x0 y0 x1 y1 x2 y2)]) ∧ OwnI w.heap.size w' v (siL x0 y0 x1 y1 x2 y2) ∧ Below w.heap.size w w' := by
  cases h : isT x0 y0 x1 y1 x2 y2
  · rw [tC_no h, siL_no h]
    have hs20 : w.heap.size < w.heap.size + 1 + 1 := (by omega); have hs30 : w.heap.size < w.heap.size + 1 + 1 + 1 := (by omega); have hs31 : w.heap.size + 1 < w.heap.size + 1 + 1 + 1 := (by omega); have hs40 : w.heap.size < w.heap.size + 1 + 1 + 1 + 1 := (by omega); have hs41 : w.heap.size + 1 < w.heap.size + 1 + 1 + 1 + 1 := (by omega); have hs42 : w.heap.size + 1 + 1 < w.heap.size + 1 + 1 + 1 + 1 := (by omega)
    go_enter Try.func35, Try.ntmps35
    go_wp2_with (first | (go_at_call 19; refine (impl_IsTriangle_any _ _ _ _ _ _ _).mono ?_; rintro e wn ⟨rfl, hb⟩; first | (have h2 := after_call2 hb hcl hfr hlt (by ((repeat' (first | (with_reducible exact Below.refl _ _) | (with_reducible refine Below.alloc ?_ ?_ _) | (with_reducible refine Below.setCell ?_ ?_ _) | (with_reducible refine Below.drew ?_) | (with_reducible refine below_drewN ?_ _) | (with_reducible assumption) | (with_reducible refine below_after (by with_reducible assumption) ?_) | go_size)); done)); obtain ⟨hclx, hfrx, hltx, hsz⟩ := after_call hb; (try simp only [World.size_alloc, World.size_setCell, World.size_drew] at hclx hfrx hltx hsz); (try (have hszl := Nat.lt_of_succ_le hsz)); obtain ⟨hcl, hfr, hlt⟩ := h2) | (obtain ⟨hcl, hfr, hlt, hsz⟩ := after_call hb; (try simp only [World.size_alloc, World.size_setCell, World.size_drew] at hcl hfr hlt hsz))))
    refine bodyPost_ret (v := .tuple #[.slice none 0 0, .int .i64 1]) (by simp (maxDischargeDepth := 8) [results, Try.results35, go_sem, *]) rfl ?_
    exact ⟨_, rfl, World.ownsRow_nil _ _ _ _, by (repeat' (first | (with_reducible exact Below.refl _ _) | (with_reducible refine Below.alloc ?_ ?_ _) | (with_reducible refine Below.setCell ?_ ?_ _) | (with_reducible refine Below.drew ?_) | (with_reducible refine below_drewN ?_ _) | (with_reducible assumption) | (with_reducible refine below_after (by with_reducible assumption) ?_) | go_size))⟩
  · rw [tC_yes h, siL_yes h]
    have HT := Lib.hid h
    clear h
    have hcr : ∀ j : Nat, j < 3 → True := fun _ _ => trivial
    clear hcr
    go_enter Try.func35, Try.ntmps35
    go_upto_region 1 with fail
    obtain ⟨wB, hwB⟩ : ∃ wB, wB = w.alloc (.cells #[.int .i64 x0, .int .i64 y0, .int .i64 x1, .int .i64 y1, .int .i64 x2, .int .i64 y2] 27) := ⟨_, rfl⟩
    rw [← hwB]
    have HBW : Hid (Below w.heap.size w wB) := by
      show Below w.heap.size w wB
      rw [hwB]; (repeat' (first | (with_reducible exact Below.refl _ _) | (with_reducible refine Below.alloc ?_ ?_ _) | (with_reducible refine Below.setCell ?_ ?_ _) | (with_reducible refine Below.drew ?_) | (with_reducible refine below_drewN ?_ _) | (with_reducible assumption) | (with_reducible refine below_after (by with_reducible assumption) ?_) | go_size))
    have HK : Hid (∀ W', Below wB.heap.size wB W' → W'.cell? ⟨w.heap.size, 0, none⟩ = some (.int .i64 x0) ∧ W'.cell? ⟨w.heap.size, 1, none⟩ = some (.int .i64 y0) ∧ W'.cell? ⟨w.heap.size, 2, none⟩ = some (.int .i64 x1) ∧ W'.cell? ⟨w.heap.size, 3, none⟩ = some (.int .i64 y1) ∧ W'.cell? ⟨w.heap.size, 4, none⟩ = some (.int .i64 x2) ∧ W'.cell? ⟨w.heap.size, 5, none⟩ = some (.int .i64 y2) ∧ w.heap.size < W'.heap.size) := by
      intro W' hB
      have hz := hB.size
      have hbs : wB.heap.size = w.heap.size + 1 := by rw [hwB]; simp
      refine ⟨?_, ?_, ?_, ?_, ?_, ?_, by omega⟩
      all_goals (rw [hB.cell (p := ⟨w.heap.size, _, none⟩) (by rw [hbs]; exact Nat.lt_succ_self _), hwB]; go_cell)
    clear hwB
    obtain ⟨s0, s1, s2, s3, s4, s5, sz⟩ := HK.out wB (Below.refl _ _)
    go_wp2_with fail
    go_at_call 19
    refine (impl_IsTriangle_any _ _ _ _ _ _ _).mono ?_
    rw [HT.out]
    rintro e w1 ⟨rfl, b1⟩
    clear s0 s1 s2 s3 s4 s5 sz
    have hmk : ∀ W : World, (Instr.makeSlice 43 (.int .i64 3) (.int .i64 3)).run Try.prog W = .ok (.slice (some ⟨W.heap.size, 0, none⟩) 3 3) (W.alloc (.cells #[.int .i64 0, .int .i64 0, .int .i64 0] 2)) := fun W => by kernel_rfl
    go_upto_region 4 with fail
    obtain ⟨G, hG⟩ : ∃ G, w1.heap.size = G := ⟨_, rfl⟩
    obtain ⟨wC, hwC⟩ : ∃ wC, wC = w1.alloc (.cells #[.int .i64 0, .int .i64 0, .int .i64 0] 2) := ⟨_, rfl⟩
    rw [← hwC, hG]
    have h3 : OwnI wB.heap.size wC (.slice (some ⟨G, 0, none⟩) 3 3) [0, 0, 0] := by rw [hwC, ← hG]; exact World.ownsRow_lit w1 #[.int .i64 0, .int .i64 0, .int .i64 0] 3 b1.size (by decide) rfl
    have hbC : Below wB.heap.size wB wC := by rw [hwC]; exact b1.alloc b1.size _
    clear hwC b1 hG hmk
    go_wp2_with fail
    go_loopw [13] (fun i wr => ∃ j : Nat, j ≤ 3 ∧ i = .int .i64 j ∧ OwnI wB.heap.size wr (.slice (some ⟨G, 0, none⟩) 3 3) (kvL x0 y0 x1 y1 x2 y2 j) ∧ Below wB.heap.size wB wr) (fun i _ => 3 - (intOf i).toNat)
    case atStart => exact ⟨0, by omega, rfl, h3, hbC⟩
    case round =>
      obtain ⟨j, hj, rfl, hbk, hbel⟩ := hrel
      clear h3 hbC
      obtain ⟨s0, s1, s2, s3, s4, s5, sz⟩ := HK.out wr hbel
      have hc : j = 0 ∨ j = 1 ∨ j = 2 ∨ j = 3 := by omega
      rcases hc with rfl | rfl | rfl | rfl
      · have hbk : OwnI wB.heap.size wr (.slice (some ⟨G, 0, none⟩) 3 3) [0, 0, 0] := hbk
        have HR := Lib.hid HT.out
        have HC := Lib.hid (cn_pts HR.out)
        go_wp2_with fail
        go_at_call 78
        refine (pointsFrom_0 _ _ _ _ _ _ _).mono ?_
        rintro e wx ⟨rfl, bx⟩
        have hbx : Below wB.heap.size wB wx := below_after bx hbel
        have hkx := hbk.below bx
        clear bx hbel hbk s0 s1 s2 s3 s4 s5 sz
        go_wp2_with fail
        go_at_call 77
        refine (firstCorner_tri _ _ _ _ _ _ _ HR.out).mono ?_
        rintro e wy ⟨rfl, by1⟩
        have hby : Below wB.heap.size wB wy := below_after by1 hbx
        have hky := hkx.below by1
        clear by1 hbx hkx
        obtain ⟨p0, hp0⟩ : ∃ p, (cnT x0 y0 x1 y1 x2 y2).1.1 = p := ⟨_, rfl⟩
        obtain ⟨p1, hp1⟩ : ∃ p, (cnT x0 y0 x1 y1 x2 y2).1.2 = p := ⟨_, rfl⟩
        obtain ⟨p2, hp2⟩ : ∃ p, (cnT x0 y0 x1 y1 x2 y2).2.1 = p := ⟨_, rfl⟩
        obtain ⟨p3, hp3⟩ : ∃ p, (cnT x0 y0 x1 y1 x2 y2).2.2 = p := ⟨_, rfl⟩
        have hsn : absI (detP (p0, p1) (p2, p3)) = snT x0 y0 x1 y1 x2 y2 := by rw [← hp0, ← hp1, ← hp2, ← hp3]; rfl
        rw [hp0, hp1, hp2, hp3] at HC ⊢
        clear hp0 hp1 hp2 hp3
        obtain ⟨sv, hsv⟩ : ∃ s, snT x0 y0 x1 y1 x2 y2 = s := ⟨_, rfl⟩
        rw [hsv] at hsn
        obtain ⟨d1, d2⟩ := det_tnC HC.out.1 HC.out.2
        have HTN : Hid (Tn (detP (p0, p1) (p2, p3))) := ⟨by unfold detP at *; omega, by unfold detP at *; omega⟩
        clear d1 d2
        have HSN := Lib.hid hsn
        have HSV := Lib.hid hsv
        clear hsn hsv
        obtain ⟨wD, hwD⟩ : ∃ wD, wD = wy.alloc (.cells #[.int .i64 p0, .int .i64 p1, .int .i64 p2, .int .i64 p3] 38) := ⟨_, rfl⟩
        go_upto_region 8 with fail
        have hbD : Below wB.heap.size wB wD := by rw [hwD]; exact hby.alloc hby.size _
        first | rw [← hwD] | skip
        have hkD := hky.below ((Below.refl _ _).alloc (Nat.le_refl _) (.cells #[.int .i64 p0, .int .i64 p1, .int .i64 p2, .int .i64 p3] 38))
        rw [← hwD] at hkD
        have q0 : wD.cell? ⟨wy.heap.size, 0, none⟩ = some (.int .i64 p0) := by rw [hwD]; go_cell
        have q1 : wD.cell? ⟨wy.heap.size, 1, none⟩ = some (.int .i64 p1) := by rw [hwD]; go_cell
        have q2 : wD.cell? ⟨wy.heap.size, 2, none⟩ = some (.int .i64 p2) := by rw [hwD]; go_cell
        have q3 : wD.cell? ⟨wy.heap.size, 3, none⟩ = some (.int .i64 p3) := by rw [hwD]; go_cell
        have qz : wy.heap.size < wD.heap.size := by rw [hwD]; simp
        clear hwD hby hky
        go_wp2_with fail
        go_at_call 81
        refine (determinant_any _ _ _ _ _ (isPt_bn1 HC.out.1) (isPt_bn2 HC.out.1) (isPt_bn1 HC.out.2) (isPt_bn2 HC.out.2)).mono ?_
        rintro e wz ⟨rfl, bz⟩
        have hkz := hkD.below bz
        have hbz : Below wB.heap.size wB wz := below_after bz hbD
        clear bz hkD hbD q0 q1 q2 q3 qz
        obtain ⟨c0, c1, c2, f0, f1, f2, hBG, hg⟩ := own3_cells hkz
        go_wp2_with fail
        go_at_call 80
        refine (absolute_any _ _ HTN.out).mono ?_
        rintro e wq ⟨rfl, rfl⟩
        rw [HSN.out]
        have hkf := own3_set hkz 0 (by decide) sv
        have hbf := hbz.setCell (p := ⟨G, 0, none⟩) hBG (.int .i64 sv)
        go_wp2
        go_roundw
        case rel => exact ⟨0 + 1, by omega, by go_num, by rw [← HSV.out] at hkf ⊢; exact hkf, hbf⟩
        case measure => simp [intOf]
      · have hbk : OwnI wB.heap.size wr (.slice (some ⟨G, 0, none⟩) 3 3) [snT x0 y0 x1 y1 x2 y2, 0, 0] := hbk
        have HR := Lib.hid (isT_rot HT.out)
        have HC := Lib.hid (cn_pts HR.out)
        go_wp2_with fail
        go_at_call 78
        refine (pointsFrom_1 _ _ _ _ _ _ _).mono ?_
        rintro e wx ⟨rfl, bx⟩
        have hbx : Below wB.heap.size wB wx := below_after bx hbel
        have hkx := hbk.below bx
        clear bx hbel hbk s0 s1 s2 s3 s4 s5 sz
        go_wp2_with fail
        go_at_call 77
        refine (firstCorner_tri _ _ _ _ _ _ _ HR.out).mono ?_
        rintro e wy ⟨rfl, by1⟩
        have hby : Below wB.heap.size wB wy := below_after by1 hbx
        have hky := hkx.below by1
        clear by1 hbx hkx
        obtain ⟨p0, hp0⟩ : ∃ p, (cnT x1 y1 x2 y2 x0 y0).1.1 = p := ⟨_, rfl⟩
        obtain ⟨p1, hp1⟩ : ∃ p, (cnT x1 y1 x2 y2 x0 y0).1.2 = p := ⟨_, rfl⟩
        obtain ⟨p2, hp2⟩ : ∃ p, (cnT x1 y1 x2 y2 x0 y0).2.1 = p := ⟨_, rfl⟩
        obtain ⟨p3, hp3⟩ : ∃ p, (cnT x1 y1 x2 y2 x0 y0).2.2 = p := ⟨_, rfl⟩
        have hsn : absI (detP (p0, p1) (p2, p3)) = snT x1 y1 x2 y2 x0 y0 := by rw [← hp0, ← hp1, ← hp2, ← hp3]; rfl
        rw [hp0, hp1, hp2, hp3] at HC ⊢
        clear hp0 hp1 hp2 hp3
        obtain ⟨sv, hsv⟩ : ∃ s, snT x1 y1 x2 y2 x0 y0 = s := ⟨_, rfl⟩
        rw [hsv] at hsn
        obtain ⟨d1, d2⟩ := det_tnC HC.out.1 HC.out.2
        have HTN : Hid (Tn (detP (p0, p1) (p2, p3))) := ⟨by unfold detP at *; omega, by unfold detP at *; omega⟩
        clear d1 d2
        have HSN := Lib.hid hsn
        have HSV := Lib.hid hsv
        clear hsn hsv
        obtain ⟨wD, hwD⟩ : ∃ wD, wD = wy.alloc (.cells #[.int .i64 p0, .int .i64 p1, .int .i64 p2, .int .i64 p3] 38) := ⟨_, rfl⟩
        go_upto_region 8 with fail
        have hbD : Below wB.heap.size wB wD := by rw [hwD]; exact hby.alloc hby.size _
        first | rw [← hwD] | skip
        have hkD := hky.below ((Below.refl _ _).alloc (Nat.le_refl _) (.cells #[.int .i64 p0, .int .i64 p1, .int .i64 p2, .int .i64 p3] 38))
        rw [← hwD] at hkD
        have q0 : wD.cell? ⟨wy.heap.size, 0, none⟩ = some (.int .i64 p0) := by rw [hwD]; go_cell
        have q1 : wD.cell? ⟨wy.heap.size, 1, none⟩ = some (.int .i64 p1) := by rw [hwD]; go_cell
        have q2 : wD.cell? ⟨wy.heap.size, 2, none⟩ = some (.int .i64 p2) := by rw [hwD]; go_cell
        have q3 : wD.cell? ⟨wy.heap.size, 3, none⟩ = some (.int .i64 p3) := by rw [hwD]; go_cell
        have qz : wy.heap.size < wD.heap.size := by rw [hwD]; simp
        clear hwD hby hky
        go_wp2_with fail
        go_at_call 81
        refine (determinant_any _ _ _ _ _ (isPt_bn1 HC.out.1) (isPt_bn2 HC.out.1) (isPt_bn1 HC.out.2) (isPt_bn2 HC.out.2)).mono ?_
        rintro e wz ⟨rfl, bz⟩
        have hkz := hkD.below bz
        have hbz : Below wB.heap.size wB wz := below_after bz hbD
        clear bz hkD hbD q0 q1 q2 q3 qz
        obtain ⟨c0, c1, c2, f0, f1, f2, hBG, hg⟩ := own3_cells hkz
        go_wp2_with fail
        go_at_call 80
        refine (absolute_any _ _ HTN.out).mono ?_
        rintro e wq ⟨rfl, rfl⟩
        rw [HSN.out]
        have hkf := own3_set hkz 1 (by decide) sv
        have hbf := hbz.setCell (p := ⟨G, 1, none⟩) hBG (.int .i64 sv)
        go_wp2
        go_roundw
        case rel => exact ⟨1 + 1, by omega, by go_num, by rw [← HSV.out] at hkf ⊢; exact hkf, hbf⟩
        case measure => simp [intOf]
      · have hbk : OwnI wB.heap.size wr (.slice (some ⟨G, 0, none⟩) 3 3) [snT x0 y0 x1 y1 x2 y2, snT x1 y1 x2 y2 x0 y0, 0] := hbk
        have HR := Lib.hid (isT_rot (isT_rot HT.out))
        have HC := Lib.hid (cn_pts HR.out)
        go_wp2_with fail
        go_at_call 78
        refine (pointsFrom_2 _ _ _ _ _ _ _).mono ?_
        rintro e wx ⟨rfl, bx⟩
        have hbx : Below wB.heap.size wB wx := below_after bx hbel
        have hkx := hbk.below bx
        clear bx hbel hbk s0 s1 s2 s3 s4 s5 sz
        go_wp2_with fail
        go_at_call 77
        refine (firstCorner_tri _ _ _ _ _ _ _ HR.out).mono ?_
        rintro e wy ⟨rfl, by1⟩
        have hby : Below wB.heap.size wB wy := below_after by1 hbx
        have hky := hkx.below by1
        clear by1 hbx hkx
        obtain ⟨p0, hp0⟩ : ∃ p, (cnT x2 y2 x0 y0 x1 y1).1.1 = p := ⟨_, rfl⟩
        obtain ⟨p1, hp1⟩ : ∃ p, (cnT x2 y2 x0 y0 x1 y1).1.2 = p := ⟨_, rfl⟩
        obtain ⟨p2, hp2⟩ : ∃ p, (cnT x2 y2 x0 y0 x1 y1).2.1 = p := ⟨_, rfl⟩
        obtain ⟨p3, hp3⟩ : ∃ p, (cnT x2 y2 x0 y0 x1 y1).2.2 = p := ⟨_, rfl⟩
        have hsn : absI (detP (p0, p1) (p2, p3)) = snT x2 y2 x0 y0 x1 y1 := by rw [← hp0, ← hp1, ← hp2, ← hp3]; rfl
        rw [hp0, hp1, hp2, hp3] at HC ⊢
        clear hp0 hp1 hp2 hp3
        obtain ⟨sv, hsv⟩ : ∃ s, snT x2 y2 x0 y0 x1 y1 = s := ⟨_, rfl⟩
        rw [hsv] at hsn
        obtain ⟨d1, d2⟩ := det_tnC HC.out.1 HC.out.2
        have HTN : Hid (Tn (detP (p0, p1) (p2, p3))) := ⟨by unfold detP at *; omega, by unfold detP at *; omega⟩
        clear d1 d2
        have HSN := Lib.hid hsn
        have HSV := Lib.hid hsv
        clear hsn hsv
        obtain ⟨wD, hwD⟩ : ∃ wD, wD = wy.alloc (.cells #[.int .i64 p0, .int .i64 p1, .int .i64 p2, .int .i64 p3] 38) := ⟨_, rfl⟩
        go_upto_region 8 with fail
        have hbD : Below wB.heap.size wB wD := by rw [hwD]; exact hby.alloc hby.size _
        first | rw [← hwD] | skip
        have hkD := hky.below ((Below.refl _ _).alloc (Nat.le_refl _) (.cells #[.int .i64 p0, .int .i64 p1, .int .i64 p2, .int .i64 p3] 38))
        rw [← hwD] at hkD
        have q0 : wD.cell? ⟨wy.heap.size, 0, none⟩ = some (.int .i64 p0) := by rw [hwD]; go_cell
        have q1 : wD.cell? ⟨wy.heap.size, 1, none⟩ = some (.int .i64 p1) := by rw [hwD]; go_cell
        have q2 : wD.cell? ⟨wy.heap.size, 2, none⟩ = some (.int .i64 p2) := by rw [hwD]; go_cell
        have q3 : wD.cell? ⟨wy.heap.size, 3, none⟩ = some (.int .i64 p3) := by rw [hwD]; go_cell
        have qz : wy.heap.size < wD.heap.size := by rw [hwD]; simp
        clear hwD hby hky
        go_wp2_with fail
        go_at_call 81
        refine (determinant_any _ _ _ _ _ (isPt_bn1 HC.out.1) (isPt_bn2 HC.out.1) (isPt_bn1 HC.out.2) (isPt_bn2 HC.out.2)).mono ?_
        rintro e wz ⟨rfl, bz⟩
        have hkz := hkD.below bz
        have hbz : Below wB.heap.size wB wz := below_after bz hbD
        clear bz hkD hbD q0 q1 q2 q3 qz
        obtain ⟨c0, c1, c2, f0, f1, f2, hBG, hg⟩ := own3_cells hkz
        go_wp2_with fail
        go_at_call 80
        refine (absolute_any _ _ HTN.out).mono ?_
        rintro e wq ⟨rfl, rfl⟩
        rw [HSN.out]
        have hkf := own3_set hkz 2 (by decide) sv
        have hbf := hbz.setCell (p := ⟨G, 2, none⟩) hBG (.int .i64 sv)
        go_wp2
        go_roundw
        case rel => exact ⟨2 + 1, by omega, by go_num, by rw [← HSV.out] at hkf ⊢; exact hkf, hbf⟩
        case measure => simp [intOf]
      · have hbk : OwnI wB.heap.size wr (.slice (some ⟨G, 0, none⟩) 3 3) (sn3 x0 y0 x1 y1 x2 y2) := hbk
        go_wp2
        refine bodyPost_ret (v := .tuple #[.slice (some ⟨G, 0, none⟩) 3 3, .int .i64 0]) (by simp (maxDischargeDepth := 8) [results, Try.results35, go_sem, *]) rfl ?_
        exact ⟨_, rfl, own_up hbk HBW.out.size, below_after hbel HBW.out⟩
end Go.Proofs.Ytcgaikedbhdbgaa
