/-
  DualPolygon in the program (own work).
-/
import Derived.Lib.MinMax
import Derived.BigRegion
import Derived.Deep.DeepCutAuto
import Derived.Maps.AppendAt
import Derived.Test.YtkfoelkkllpmdaaPgW
import Derived.Test.YtkfoelkkllpmdaaPtM
namespace Go.Proofs.Ytkfoelkkllpmdaa
open Go.ChangeShapes Go.WideShapes Go.ChangeAt Go.RowKit Go.Shelf
set_option linter.unusedVariables false
set_option maxRecDepth 100000
set_option linter.unusedSimpArgs false
set_option maxRecDepth 100000
attribute [local go_sem] Oper.semAt_some

/-- Whether 0 is the only inner point. -/
def duB (ps : List (Int × Int)) : Bool := (innL ps == 1) && (whL ps (0, 0) == 1)
def duP (ps : List (Int × Int)) (k : Nat) : Int × Int := ((-((pl ps (k + 1)).2 - (pl ps k).2)).tdiv (dvL ps k), ((pl ps (k + 1)).1 - (pl ps k).1).tdiv (dvL ps k))
def duL (ps : List (Int × Int)) : List (Int × Int) := if isP ps = true then (if duB ps = true then (List.range ps.length).map (duP ps) else []) else []
def duC (ps : List (Int × Int)) : Int := if isP ps = true then (if duB ps = true then 0 else 5) else 1
theorem du_no {ps : List (Int × Int)} (h : isP ps = false) : duL ps = [] ∧ duC ps = 1 := by unfold duL duC; rw [h]; exact ⟨rfl, rfl⟩
theorem du_st {ps : List (Int × Int)} (h : isP ps = true) (k : duB ps = false) : duL ps = [] ∧ duC ps = 5 := by unfold duL duC; rw [h, k]; exact ⟨rfl, rfl⟩
theorem du_yes {ps : List (Int × Int)} (h : isP ps = true) (k : duB ps = true) : duL ps = (List.range ps.length).map (duP ps) ∧ duC ps = 0 := by unfold duL duC; rw [h, k]; exact ⟨rfl, rfl⟩
theorem duL_len {ps : List (Int × Int)} : (duL ps).length ≤ 12 := by
  unfold duL
  split
  · rename_i h
    have := (isP_iff.1 h).2.1
    split
    · simp; exact this
    · simp
  · simp
theorem whL_pos {ps : List (Int × Int)} {a : Int × Int} (h : whL ps a = 1) : ∀ k, k < ps.length → 0 < tnL ps a k := by
  have key : ∀ (l : List Nat) (acc : Int), l.foldl (fun acc k => min acc (sgn (tnL ps a k))) acc = 1 → acc ≤ 1 → ∀ k, k ∈ l → 0 < tnL ps a k := by
    intro l
    induction l with
    | nil => intro acc _ _ k hk; cases hk
    | cons x l ih =>
      intro acc h1 h2 k hk
      rw [List.foldl_cons] at h1
      have hb := sgn_bd (tnL ps a x)
      rcases List.mem_cons.1 hk with rfl | hk
      · apply Classical.byContradiction
        intro hn
        have : sgn (tnL ps a k) ≤ 0 := by unfold sgn; split <;> (try split) <;> omega
        have low : ∀ (l : List Nat) (acc : Int), acc ≤ 0 → l.foldl (fun acc k => min acc (sgn (tnL ps a k))) acc ≤ 0 := by
          intro l
          induction l with
          | nil => intro acc h; exact h
          | cons y l ih2 => intro acc h; rw [List.foldl_cons]; exact ih2 _ (by omega)
        have := low l (min acc (sgn (tnL ps a k))) (by omega)
        omega
      · exact ih _ h1 (by omega) k hk
  intro k hk
  exact key _ 1 h (by omega) k (List.mem_range.2 hk)
theorem tn_zero (ps : List (Int × Int)) (k : Nat) : tnL ps (0, 0) k = dvL ps k := by unfold tnL dvL trn dv sbv; grind
theorem du_pos {ps : List (Int × Int)} (k : duB ps = true) : ∀ i, i < ps.length → 0 < dvL ps i := by
  unfold duB at k
  simp only [Bool.and_eq_true, beq_iff_eq] at k
  intro i hi
  have := whL_pos k.2 i hi
  rwa [tn_zero] at this
theorem tdiv_le {a d : Int} (hd : 1 ≤ d) : -(a.natAbs : Int) ≤ a.tdiv d ∧ a.tdiv d ≤ a.natAbs := by
  have h := Int.natAbs_tdiv a d
  have h2 := Nat.div_le_self a.natAbs d.natAbs
  have h3 : (a.tdiv d).natAbs ≤ a.natAbs := by rw [h]; exact h2
  omega
/-- A list of points that grows by one, in a region that draws its order. -/
theorem wp_append_atF (B : Nat) {W : World} {o : Oper} {a : Act} {K : Act → World → Prop} {Q : Exit → Act → World → Prop} (s x : Operand)
    (ho : o.op = .call { callee := .builtin .append, args := #[s, x], argTypes := #[25, 25] })
    {v : Value} {n : Nat} {xs : List Int} {g c : Nat} {y0 y1 : Int} (hown : OwnF B W v n xs) (c0 : W.cell? ⟨g, 0, none⟩ = some (.int .i64 y0)) (c1 : W.cell? ⟨g, 1, none⟩ = some (.int .i64 y1)) (hb : B ≤ W.heap.size) (hs : a.eval s = v) (hx : a.eval x = .slice (some ⟨g, 0, none⟩) 1 c) (hlen : n + 1 ≤ 4194304)
    (hK : ∀ v' w', OwnF B w' v' (n + 1) (xs ++ [y0, y1]) → W.grownBy w' v.ownBlock → (v'.ownBlock = v.ownBlock ∨ v'.ownBlock = some W.heap.size) → K (a.put o.dst v') w') : Oper.wp Try.prog o a W K Q := by
  obtain ⟨ti0, hi, hz0, hz1, hz2⟩ := info_parts info_pt
  obtain ⟨v', w', hr, h2, h3, h4, h5⟩ := run_append_own_at (P := Try.prog) W B 25 o.type 38 ti0 (.agg #[.int .i64 0, .int .i64 0]) 2 16 Try.underlying25 hi hz0 hz1 hz2 rfl (by decide) v _ _ hown ⟨g, 0, none⟩ 1 c ([y0, y1].map (Value.int .i64)) rfl
    (by intro j u hj
        match j, hj with
        | 0, hj => simp at hj; subst hj; simpa [Addr.add] using c0
        | 1, hj => simp at hj; subst hj; simpa [Addr.add] using c1)
    (by intro u hu; simp only [List.mem_map] at hu; obtain ⟨y, _, rfl⟩ := hu; rfl) (by unfold maxLen; omega) (by omega) hb
  unfold Oper.wp execOp
  simp only [ho, resolve, invoke, builtin, Sem.run_bind, Sem.run_pure, Result.andThen_ok, List.map_toArray, List.map_cons, List.map_nil, hs, hx, hr]
  refine hK _ _ ?_ h3 h5
  show w'.ownsRow B 38 2 v' (n + 1) ((xs ++ [y0, y1]).map (Value.int .i64))
  rw [List.map_append]; exact h2
def duA {m : Nat} (ps : List (Int × Int)) (pre : List (Fin m)) : List (Int × Int) := pre.map fun x => duP ps x.val
theorem duA_len {m : Nat} (ps : List (Int × Int)) (pre : List (Fin m)) : (duA ps pre).length = pre.length := by simp [duA]
theorem duA_snoc {m : Nat} (ps : List (Int × Int)) (pre : List (Fin m)) (x : Fin m) : flat (duA ps (pre ++ [x])) = flat (duA ps pre) ++ [(duP ps x.val).1, (duP ps x.val).2] := by simp [duA, flat]
theorem duA_all {m : Nat} (ps : List (Int × Int)) (ys : List (Fin m)) (hy : ys.map (·.val) = List.range m) : duA ps ys = (List.range m).map (duP ps) := by
  unfold duA; rw [← hy, List.map_map]; rfl
set_option maxHeartbeats 8000000 in
theorem impl_Dual_yes (m g cap : Nat) (ps : List (Int × Int)) (w : World) (hp : isP ps = true) (hk : duB ps = true) (h : LP w (some ⟨g, 0, none⟩) m ps) :
    Calls Try.prog 44 #[.slice (some ⟨g, 0, none⟩) m cap] w (RetPC w (duL ps) (duC ps)) := by
  rw [(du_yes hp hk).1, (du_yes hp hk).2]
  obtain ⟨g', eg, hps, h3, hm, hg, hc, hin⟩ := h
  cases eg
  have HLV : Hid (LV w (some ⟨g, 0, none⟩) m ps) := ⟨hps, by omega, fun _ => ⟨g, rfl, hg, hc⟩⟩
  have HLP : Hid (LP w (some ⟨g, 0, none⟩) m ps) := ⟨g, rfl, hps, h3, hm, hg, hc, hin⟩
  have HI := Lib.hid (impl_IsPolygon_any (some ⟨g, 0, none⟩) m cap ps w HLV.out)
  rw [hp] at HI
  have hkk := hk
  unfold duB at hkk
  simp only [Bool.and_eq_true, beq_iff_eq] at hkk
  have HN : Hid (∀ w1, Below w.heap.size w w1 → Calls Try.prog 70 #[.slice (some ⟨g, 0, none⟩) m cap] w1 fun e w' => e = .returned (.int .i64 1) ∧ Below w1.heap.size w1 w') := fun w1 hb => by
    have := innerOf_lp (some ⟨g, 0, none⟩) m cap ps w1 (HLP.out.below hb)
    rwa [hkk.1] at this
  have HW : Hid (∀ w1, Below w.heap.size w w1 → Calls Try.prog 75 #[.slice (some ⟨g, 0, none⟩) m cap, .agg #[.int .i64 0, .int .i64 0]] w1 fun e w' => e = .returned (.int .i64 1) ∧ Below w1.heap.size w1 w') := fun w1 hb => by
    have := whereIn_lp (some ⟨g, 0, none⟩) m cap ps 0 0 w1 (HLP.out.below hb) (by decide)
    rwa [hkk.2] at this
  have HDP := Lib.hid (du_pos hk)
  have HBD := Lib.hid (fun k => dvL_bd hin (by omega) k)
  have HPL := Lib.hid (fun k => inC_pl hin (show 0 < ps.length by omega) k)
  have HPT := Lib.hid (fun k => inC_pt hin (show 0 < ps.length by omega) k)
  have HPS := Lib.hid hps
  have HC := Lib.hid hc
  have HRW : Hid (RetPC w ((List.range ps.length).map (duP ps)) 0 = RetPC w ((List.range m).map (duP ps)) 0) := by show _ = _; rw [hps]
  rw [HRW.out]
  clear hc hin hp hk hkk
  refine (callsIn_wide (n := 6)).1 ?_
  refine callsIn_of_wp_marks Try.func44 rfl trivial ?_ rfl
  simp only [Try.ntmps44, List.size_toArray, List.length_cons, List.length_nil, Nat.reduceAdd, Nat.reduceSub, Array.replicate_succ, Array.replicate_zero, List.push_toArray, List.append_toArray, List.nil_append, List.cons_append]
  gi_wp2_with (refine ⟨trivial, ?_⟩; gi_at_call 20; refine (callsIn_wide.2 HI.out).mono ?_; rintro e wa ⟨rfl, ba⟩)
  gi_wp2_with (refine ⟨trivial, ?_⟩; gi_at_call 70; refine (callsIn_wide.2 (HN.out _ ba)).mono ?_; rintro e wb ⟨rfl, bb⟩)
  gi_wp2_with (refine ⟨trivial, ?_⟩; gi_at_call 75; refine (callsIn_wide.2 (HW.out _ (below_after bb ba))).mono ?_; rintro e w1 ⟨rfl, bc⟩)
  have HB1 : Hid (Below w.heap.size w w1) := below_after bc (below_after bb ba)
  have hs1 := HB1.out.size
  have HC1 : Hid (PtCells w1 g 0 ps) := ptCells_kept HC.out (HB1.out.block g hg)
  clear ba bb bc
  gi_wp2_with (refine ⟨trivial, ?_⟩; gi_at_call 81; refine (callsIn_wide.2 (sides_any _ _ _ _)).mono ?_; rintro e wn ⟨rfl, rfl⟩)
  refine wpIn_rangeFunc_ownH rfl (by omega) (gf := 121) (lb := #[.pointer (some ⟨w1.heap.size + 1, 0, none⟩)]) rfl trivial (enters_of Try.func121 (by kernel_rfl) rfl)
    (sides_stops _ (by omega) (w1.heap.size + 1) g m cap ps hps (by omega) (by omega) _ ?hBs ?hgl ?hcA ?hcB) kps_t (kps_b ?hBs1 ?hgl1) (Below.refl _ _) (fun _ => rfl)
    (fun pre W => (∃ v, Boxed W w1.heap.size 25 v ∧ OwnF w.heap.size W v pre.length (flat (duA ps pre)) ∧ v.ownBlock ≠ some (w1.heap.size + 1) ∧ v.ownBlock ≠ some g) ∧ (Below w.heap.size w W ∧ w1.heap.size + 1 + 1 ≤ W.heap.size))
    (fun _ _ _ => False)
    (OwnFrom.and (fun s A B row hs hg hr => by
        obtain ⟨v, hb, ho, hv⟩ := hs
        refine ⟨v, boxed_own1 hb hg (fun r e => (hr r e).2), ho.kept hg ?_, hv⟩
        rcases ho.2 with ⟨hv2, _⟩ | ⟨g2, cap2, cur2, hv2, _, hgg, _⟩
        · left; rw [hv2]; rfl
        · right
          rw [hv2]
          intro e2
          obtain ⟨o, ho2, hc2⟩ := (hr g2 (by simpa [Value.ownBlock] using e2.symm)).2
          rw [hgg] at ho2
          cases ho2
          cases hc2) (OwnFrom.and (ownFrom_below (Nat.le_refl _) (by simp; omega)) (fun _ _ _ _ hs hg _ => Nat.le_trans hs hg.size)))
    (fun _ _ _ _ _ hs _ _ => hs)
    ?h0
    (fun x a' W => ∃ A B, w1.heap.size + 1 < A ∧ w1.heap.size + 1 < B ∧ g < A ∧ g < B ∧ Pc W A (pl ps x.val) ∧ Pc W B (pl ps (x.val + 1)) ∧ a' = { tmps := #[.slice (some ⟨g, 0, none⟩) m cap, undef, .slice none 0 0, .int .i64 0, .pointer (some ⟨w1.heap.size, 0, none⟩), .pointer (some ⟨A, 0, none⟩), .pointer (some ⟨B, 0, none⟩), undef, undef, .slice (some ⟨g, 0, none⟩) m cap, .bool true, .bool false, .slice (some ⟨g, 0, none⟩) m cap, .int .i64 1, .bool false, .bool false, .slice (some ⟨g, 0, none⟩) m cap, .agg #[.int .i64 0, .int .i64 0], .int .i64 1, .bool false, .bool false, .slice (some ⟨g, 0, none⟩) m cap, .func (.func 121) #[] #[.pointer (some ⟨w1.heap.size + 1, 0, none⟩)], .agg #[.int .i64 (pl ps x.val).1, .int .i64 (pl ps x.val).2], .agg #[.int .i64 (pl ps (x.val + 1)).1, .int .i64 (pl ps (x.val + 1)).2], undef, undef, undef, undef, undef, undef, undef, undef, undef, undef, undef, undef, undef, undef, undef, undef, undef, undef, undef, undef], defers := [] }) ?hAx ?assign ?body ?done ?stop
  case hBs => simp
  case hgl => simp; omega
  case hcA => go_cell
  case hcB => exact ptCells_kept HC1.out (by rw [Below.heap_alloc _ _ _ (by simp; omega), Below.heap_alloc _ _ _ (by omega)])
  case hBs1 => simp
  case hgl1 => simp; omega
  case h0 =>
    refine ⟨⟨.slice none 0 0, (Boxed.new w1 25 (.slice none 0 0)).alloc _, World.ownsRow_nil _ _ _ _, by simp [Value.ownBlock], by simp [Value.ownBlock]⟩, ?_, by simp⟩
    have hb1 := HB1.out
    (repeat' (first | (with_reducible exact Below.refl _ _) | (with_reducible refine Below.alloc ?_ ?_ _) | (with_reducible refine Below.setCell ?_ ?_ _) | (with_reducible refine Below.drew ?_) | (with_reducible refine below_drewN ?_ _) | (with_reducible assumption) | (with_reducible refine below_after (by with_reducible assumption) ?_) | go_size))
  case hAx =>
    rintro x a' _ W W' row ⟨A, B, h1, h2, h3, h4, h5, h6, h7⟩ hg hr
    exact ⟨A, B, h1, h2, h3, h4, h5.own hg (fun r e => (hr r e).2), h6.own hg (fun r e => (hr r e).2), h7⟩
  case assign =>
    rintro l pre x W K ⟨⟨v, hI, hO, hv⟩, hB, hz⟩ hK
    have hsz := hB.size
    unfold enS vP
    gi_wp2
    have b2 : Below W.heap.size W ((W.alloc (.cells #[.int .i64 (pl ps x.val).1, .int .i64 (pl ps x.val).2] 38)).alloc (.cells #[.int .i64 (pl ps (x.val + 1)).1, .int .i64 (pl ps (x.val + 1)).2] 38)) := by (repeat' (first | (with_reducible exact Below.refl _ _) | (with_reducible refine Below.alloc ?_ ?_ _) | (with_reducible refine Below.setCell ?_ ?_ _) | (with_reducible refine Below.drew ?_) | (with_reducible refine below_drewN ?_ _) | (with_reducible assumption) | (with_reducible refine below_after (by with_reducible assumption) ?_) | go_size))
    refine hK _ _ ((keepsOthers_of_below b2).from _) (kps_below b2 (by omega) (by omega)) ⟨⟨v, boxed_below hI b2, own_below hO b2, hv⟩, hB.trans (b2.mono hsz), Nat.le_trans hz b2.size⟩ ?_
    refine ⟨W.heap.size, W.heap.size + 1, by omega, by omega, by omega, by omega, ?_, ?_, rfl⟩
    · exact (Below.heap_alloc _ _ _ (by simp)).trans (World.alloc_heap_new W _)
    · have := World.alloc_heap_new (W.alloc (.cells #[.int .i64 (pl ps x.val).1, .int .i64 (pl ps x.val).2] 38)) (.cells #[.int .i64 (pl ps (x.val + 1)).1, .int .i64 (pl ps (x.val + 1)).2] 38)
      rwa [World.size_alloc] at this
  case body =>
    rintro l pre x a' W hl hrec ⟨⟨v, hI, hO, hv1, hv2⟩, hB, hz⟩ ⟨A, B, h1, h2, h3, h4, hA, hB2, rfl⟩ hlt
    have HSN := Lib.hid (duA_snoc ps pre x)
    have HDV : Hid (dvL ps x.val = dv (pl ps x.val) (pl ps (x.val + 1))) := rfl
    have HDU : Hid (duP ps x.val = ((-((pl ps (x.val + 1)).2 - (pl ps x.val).2)).tdiv (dvL ps x.val), ((pl ps (x.val + 1)).1 - (pl ps x.val).1).tdiv (dvL ps x.val))) := rfl
    have hd1 : 1 ≤ dvL ps x.val := HDP.out x.val (by have := x.isLt; have := HPS.out; omega)
    obtain ⟨hd2, hd3⟩ := HBD.out x.val
    obtain ⟨p0, p1⟩ := HPL.out x.val
    obtain ⟨p2, p3⟩ := HPL.out (x.val + 1)
    have HP1 := Lib.hid (HPT.out x.val)
    have HP2 := Lib.hid (HPT.out (x.val + 1))
    obtain ⟨X0, X1, hX⟩ : ∃ a b, pl ps x.val = (a, b) := ⟨_, _, rfl⟩
    obtain ⟨Y0, Y1, hY⟩ : ∃ a b, pl ps (x.val + 1) = (a, b) := ⟨_, _, rfl⟩
    obtain ⟨D, hDe⟩ : ∃ D, dvL ps x.val = D := ⟨_, rfl⟩
    rw [hX] at hA HDV HDU p0 p1 HP1 ⊢
    rw [hY] at hB2 HDV HDU p2 p3 HP2 ⊢
    rw [hDe] at HDV HDU hd1 hd2 hd3
    dsimp only at HDU p0 p1 p2 p3
    unfold Sml at p0 p1 p2 p3
    have HSB : Hid (∀ w, Calls Try.prog 82 #[.agg #[.int .i64 X0, .int .i64 X1], .agg #[.int .i64 Y0, .int .i64 Y1]] w fun e w' => e = .returned (.agg #[.int .i64 (Y0 - X0), .int .i64 (Y1 - X1)]) ∧ Below w.heap.size w w') := fun w => stepBetween_any X0 X1 Y0 Y1 w (isPt_bn1 HP1.out) (isPt_bn2 HP1.out) (isPt_bn1 HP2.out) (isPt_bn2 HP2.out)
    have HDT : Hid (∀ w, Calls Try.prog 83 #[.agg #[.int .i64 X0, .int .i64 X1], .agg #[.int .i64 Y0, .int .i64 Y1]] w fun e w' => e = .returned (.int .i64 D) ∧ Below w.heap.size w w') := fun w => by
      rw [HDV.out]; exact determinant_any X0 X1 Y0 Y1 w (isPt_bn1 HP1.out) (isPt_bn2 HP1.out) (isPt_bn1 HP2.out) (isPt_bn2 HP2.out)
    have HCL : Hid (∀ W', Below W.heap.size W W' → W'.cell? ⟨A, 0, none⟩ = some (.int .i64 X0) ∧ W'.cell? ⟨A, 1, none⟩ = some (.int .i64 X1) ∧ W'.cell? ⟨B, 0, none⟩ = some (.int .i64 Y0) ∧ W'.cell? ⟨B, 1, none⟩ = some (.int .i64 Y1)) := fun W' hW =>
      ⟨(hA.below hW).c0, (hA.below hW).c1, (hB2.below hW).c0, (hB2.below hW).c1⟩
    clear hX hY hDe HP1 HP2
    obtain ⟨va, vc, rfl, _⟩ := own_viewF hO
    obtain ⟨n, hn⟩ : ∃ n, pre.length = n := ⟨_, rfl⟩
    rw [hn] at hI hO hv1 hv2 hlt
    have HN2 := Lib.hid hn
    clear hn
    have hIl := hI.lt
    have hOl : ∀ k, (Value.slice va n vc).ownBlock = some k → w.heap.size ≤ k ∧ k < W.heap.size := World.ownsRow.lt hO
    gi_wp2
    refine wpIn_mono (Q := fun e a' w' => e = .normal ∧ ∃ GT, (W.heap.size ≤ GT ∧ Bk2 w' GT (Y0 - X0) (Y1 - X1)) ∧ Below W.heap.size W w' ∧ a' = { tmps := #[.slice (some ⟨g, 0, none⟩) m cap, undef, .slice none 0 0, .int .i64 0, .pointer (some ⟨w1.heap.size, 0, none⟩), .pointer (some ⟨A, 0, none⟩), .pointer (some ⟨B, 0, none⟩), .pointer (some ⟨GT, 0, none⟩), .int .i64 D, .slice (some ⟨g, 0, none⟩) m cap, .bool true, .bool false, .slice (some ⟨g, 0, none⟩) m cap, .int .i64 1, .bool false, .bool false, .slice (some ⟨g, 0, none⟩) m cap, .agg #[.int .i64 0, .int .i64 0], .int .i64 1, .bool false, .bool false, .slice (some ⟨g, 0, none⟩) m cap, .func (.func 121) #[] #[.pointer (some ⟨w1.heap.size + 1, 0, none⟩)], .agg #[.int .i64 X0, .int .i64 X1], .agg #[.int .i64 Y0, .int .i64 Y1], .agg #[.int .i64 X0, .int .i64 X1], .agg #[.int .i64 Y0, .int .i64 Y1], .agg #[.int .i64 (Y0 - X0), .int .i64 (Y1 - X1)], .agg #[.int .i64 X0, .int .i64 X1], .agg #[.int .i64 Y0, .int .i64 Y1], .int .i64 D, undef, undef, undef, undef, undef, undef, undef, undef, undef, undef, undef, undef, undef, undef], defers := [] }) ?_ ?_
    · refine wpIn_region_round (S := fun W' => Below W.heap.size W W') (by kernel_rfl) (by kernel_rfl) (fun _ _ q => by cases q.1) ?_
      have hHeld : Below W.heap.size W W.drew := Below.drew (Below.refl _ _)
      show wpAnyH _ _ _ _ _ _ _ _ W.drew
      obtain ⟨wD, hwD⟩ : ∃ wD, W.drew = wD := ⟨_, rfl⟩
      rw [hwD] at hHeld ⊢
      clear hwD
      (refine wpAnyH_take (i := 0) (v := ?_) rfl (by kernel_rfl) (by kernel_rfl) (by kernel_rfl) (fun _ _ _ h => (by cases h.1)) (Or.inl ⟨rfl, ?_⟩) (by assumption) ?_; rotate_left; focus (intro W hSw; (try dsimp only at hSw); obtain ⟨i0, i1, i2, i3⟩ := HCL.out _ hSw; go_simp; try (with_reducible rfl))); (try simp only [Act.put, List.getElem_toArray, List.getElem_cons_succ, List.getElem_cons_zero, List.setIfInBounds_toArray, List.set_cons_zero, List.set_cons_succ])
      (refine wpAnyH_take (i := 1) (v := ?_) rfl (by kernel_rfl) (by kernel_rfl) (by kernel_rfl) (fun _ _ _ h => (by cases h.1)) (Or.inl ⟨rfl, ?_⟩) (by assumption) ?_; rotate_left; focus (intro W hSw; (try dsimp only at hSw); obtain ⟨i0, i1, i2, i3⟩ := HCL.out _ hSw; go_simp; try (with_reducible rfl))); (try simp only [Act.put, List.getElem_toArray, List.getElem_cons_succ, List.getElem_cons_zero, List.setIfInBounds_toArray, List.set_cons_zero, List.set_cons_succ])
      (refine wpAnyH_take (i := 3) (v := ?_) rfl (by kernel_rfl) (by kernel_rfl) (by kernel_rfl) (fun _ _ _ h => (by cases h.1)) (Or.inl ⟨rfl, ?_⟩) (by assumption) ?_; rotate_left; focus (intro W hSw; (try dsimp only at hSw); obtain ⟨i0, i1, i2, i3⟩ := HCL.out _ hSw; go_simp; try (with_reducible rfl))); (try simp only [Act.put, List.getElem_toArray, List.getElem_cons_succ, List.getElem_cons_zero, List.setIfInBounds_toArray, List.set_cons_zero, List.set_cons_succ])
      (refine wpAnyH_take (i := 4) (v := ?_) rfl (by kernel_rfl) (by kernel_rfl) (by kernel_rfl) (fun _ _ _ h => (by cases h.1)) (Or.inl ⟨rfl, ?_⟩) (by assumption) ?_; rotate_left; focus (intro W hSw; (try dsimp only at hSw); obtain ⟨i0, i1, i2, i3⟩ := HCL.out _ hSw; go_simp; try (with_reducible rfl))); (try simp only [Act.put, List.getElem_toArray, List.getElem_cons_succ, List.getElem_cons_zero, List.setIfInBounds_toArray, List.set_cons_zero, List.set_cons_succ])
      refine wpAnyH_ready (rs := [2, 6]) (by kernel_rfl) (by simp) ?_; refine AllReadyH.cons rfl (fun K hK => ?_) (AllReadyH.cons rfl (fun K hK => ?_) AllReadyH.nil)
      · skip
        go_simp; (go_at_call 82; refine (HSB.out _).mono ?_; rintro en yw0 ⟨rfl, hb2⟩); refine hK.out _ _ (below_after hb2 hHeld) (fun hHeld2 => ?_); clear hb2; (clear hHeld; rename _ => hHeld; clear hK K; have hHeld : Below W.heap.size W _ := hHeld); (try simp only [Act.put, List.getElem_toArray, List.getElem_cons_succ, List.getElem_cons_zero, List.setIfInBounds_toArray, List.set_cons_zero, List.set_cons_succ])
        refine wpAnyH_ready (rs := [5, 6]) (by kernel_rfl) (by simp) ?_; refine AllReadyH.cons rfl (fun K hK => ?_) (AllReadyH.cons rfl (fun K hK => ?_) AllReadyH.nil)
        · skip
          go_simp; (go_at_call 83; refine (HDT.out _).mono ?_; rintro en yw1 ⟨rfl, hb2⟩); refine hK.out _ _ (below_after hb2 hHeld) (fun hHeld2 => ?_); clear hb2; (clear hHeld; rename _ => hHeld; clear hK K; have hHeld : Below W.heap.size W _ := hHeld); (try simp only [Act.put, List.getElem_toArray, List.getElem_cons_succ, List.getElem_cons_zero, List.setIfInBounds_toArray, List.set_cons_zero, List.set_cons_succ])
          refine wpAnyH_ready (rs := [6]) (by kernel_rfl) (by simp) ?_; refine AllReadyH.cons rfl (fun K hK => ?_) AllReadyH.nil
          go_simp; obtain ⟨GT, hGT⟩ : ∃ G, yw1.heap.size = G := ⟨_, rfl⟩; have le_T : W.heap.size ≤ GT := by rw [← hGT]; exact Below.size hHeld
          have HT : Hid (Bk2 (yw1.alloc (.cells #[.int .i64 0, .int .i64 0] 38)) GT 0 0) := by rw [← hGT]; exact bk2_new yw1 0 0 _
          refine hK.out _ _ (Below.alloc hHeld (Below.size hHeld) _) (fun hHeld2 => ?_); (clear hHeld; rename _ => hHeld; clear hK K; have hHeld : Below W.heap.size W _ := hHeld); (try simp only [Act.put, List.getElem_toArray, List.getElem_cons_succ, List.getElem_cons_zero, List.setIfInBounds_toArray, List.set_cons_zero, List.set_cons_succ])
          rw [hGT]; clear hGT; obtain ⟨yw2, hwx⟩ : ∃ wx, yw1.alloc (.cells #[.int .i64 0, .int .i64 0] 38) = wx := ⟨_, rfl⟩; rw [hwx] at HT hHeld ⊢; clear hwx
          refine wpAnyH_ready (rs := [7]) (by kernel_rfl) (by simp) ?_; refine AllReadyH.cons rfl (fun K hK => ?_) AllReadyH.nil
          obtain ⟨⟨a0, a1⟩, ⟨f0, f1⟩, az⟩ := HT.out; go_simp; clear a0 f0 a1 f1 az
          have HT := Lib.hid ((HT.out.set0 ((Y0 - X0))).set1 ((Y1 - X1)))
          refine hK.out _ _ (Below.setCell (Below.setCell hHeld (p := ⟨GT, 0, none⟩) le_T _) (p := ⟨GT, 1, none⟩) le_T _) (fun hHeld2 => ?_); (clear hHeld; rename _ => hHeld; clear hK K; have hHeld : Below W.heap.size W _ := hHeld); (try simp only [Act.put, List.getElem_toArray, List.getElem_cons_succ, List.getElem_cons_zero, List.setIfInBounds_toArray, List.set_cons_zero, List.set_cons_succ])
          obtain ⟨yw3, hwx⟩ : ∃ wx, (yw2.setCell ⟨GT, 0, none⟩ (.int .i64 ((Y0 - X0)))).setCell ⟨GT, 1, none⟩ (.int .i64 ((Y1 - X1))) = wx := ⟨_, rfl⟩; rw [hwx] at HT hHeld ⊢; clear hwx
          (refine wpAnyH_take (i := 8) (v := ?_) rfl (by kernel_rfl) (by kernel_rfl) (by kernel_rfl) (fun _ _ _ h => (by cases h.1)) (Or.inl ⟨rfl, ?_⟩) (by assumption) ?_; rotate_left; focus (intro W hSw; (try dsimp only at hSw); obtain ⟨i0, i1, i2, i3⟩ := HCL.out _ hSw; go_simp; try (with_reducible rfl))); (try simp only [Act.put, List.getElem_toArray, List.getElem_cons_succ, List.getElem_cons_zero, List.setIfInBounds_toArray, List.set_cons_zero, List.set_cons_succ])
          refine wpAnyH_done (by kernel_rfl) ?_ _
          exact ⟨rfl, GT, ⟨le_T, HT.out⟩, hHeld, rfl⟩
        · skip
          go_simp; obtain ⟨GT, hGT⟩ : ∃ G, yw0.heap.size = G := ⟨_, rfl⟩; have le_T : W.heap.size ≤ GT := by rw [← hGT]; exact Below.size hHeld
          have HT : Hid (Bk2 (yw0.alloc (.cells #[.int .i64 0, .int .i64 0] 38)) GT 0 0) := by rw [← hGT]; exact bk2_new yw0 0 0 _
          refine hK.out _ _ (Below.alloc hHeld (Below.size hHeld) _) (fun hHeld2 => ?_); (clear hHeld; rename _ => hHeld; clear hK K; have hHeld : Below W.heap.size W _ := hHeld); (try simp only [Act.put, List.getElem_toArray, List.getElem_cons_succ, List.getElem_cons_zero, List.setIfInBounds_toArray, List.set_cons_zero, List.set_cons_succ])
          rw [hGT]; clear hGT; obtain ⟨yw1, hwx⟩ : ∃ wx, yw0.alloc (.cells #[.int .i64 0, .int .i64 0] 38) = wx := ⟨_, rfl⟩; rw [hwx] at HT hHeld ⊢; clear hwx
          refine wpAnyH_ready (rs := [5]) (by kernel_rfl) (by simp) ?_; refine AllReadyH.cons rfl (fun K hK => ?_) AllReadyH.nil
          go_simp; (go_at_call 83; refine (HDT.out _).mono ?_; rintro en yw2 ⟨rfl, hb2⟩); have HT := Lib.hid (HT.out.below hb2); refine hK.out _ _ (below_after hb2 hHeld) (fun hHeld2 => ?_); clear hb2; (clear hHeld; rename _ => hHeld; clear hK K; have hHeld : Below W.heap.size W _ := hHeld); (try simp only [Act.put, List.getElem_toArray, List.getElem_cons_succ, List.getElem_cons_zero, List.setIfInBounds_toArray, List.set_cons_zero, List.set_cons_succ])
          refine wpAnyH_ready (rs := [7]) (by kernel_rfl) (by simp) ?_; refine AllReadyH.cons rfl (fun K hK => ?_) AllReadyH.nil
          obtain ⟨⟨a0, a1⟩, ⟨f0, f1⟩, az⟩ := HT.out; go_simp; clear a0 f0 a1 f1 az
          have HT := Lib.hid ((HT.out.set0 ((Y0 - X0))).set1 ((Y1 - X1)))
          refine hK.out _ _ (Below.setCell (Below.setCell hHeld (p := ⟨GT, 0, none⟩) le_T _) (p := ⟨GT, 1, none⟩) le_T _) (fun hHeld2 => ?_); (clear hHeld; rename _ => hHeld; clear hK K; have hHeld : Below W.heap.size W _ := hHeld); (try simp only [Act.put, List.getElem_toArray, List.getElem_cons_succ, List.getElem_cons_zero, List.setIfInBounds_toArray, List.set_cons_zero, List.set_cons_succ])
          obtain ⟨yw3, hwx⟩ : ∃ wx, (yw2.setCell ⟨GT, 0, none⟩ (.int .i64 ((Y0 - X0)))).setCell ⟨GT, 1, none⟩ (.int .i64 ((Y1 - X1))) = wx := ⟨_, rfl⟩; rw [hwx] at HT hHeld ⊢; clear hwx
          (refine wpAnyH_take (i := 8) (v := ?_) rfl (by kernel_rfl) (by kernel_rfl) (by kernel_rfl) (fun _ _ _ h => (by cases h.1)) (Or.inl ⟨rfl, ?_⟩) (by assumption) ?_; rotate_left; focus (intro W hSw; (try dsimp only at hSw); obtain ⟨i0, i1, i2, i3⟩ := HCL.out _ hSw; go_simp; try (with_reducible rfl))); (try simp only [Act.put, List.getElem_toArray, List.getElem_cons_succ, List.getElem_cons_zero, List.setIfInBounds_toArray, List.set_cons_zero, List.set_cons_succ])
          refine wpAnyH_done (by kernel_rfl) ?_ _
          exact ⟨rfl, GT, ⟨le_T, HT.out⟩, hHeld, rfl⟩
      · skip
        go_simp; obtain ⟨GT, hGT⟩ : ∃ G, wD.heap.size = G := ⟨_, rfl⟩; have le_T : W.heap.size ≤ GT := by rw [← hGT]; exact Below.size hHeld
        have HT : Hid (Bk2 (wD.alloc (.cells #[.int .i64 0, .int .i64 0] 38)) GT 0 0) := by rw [← hGT]; exact bk2_new wD 0 0 _
        refine hK.out _ _ (Below.alloc hHeld (Below.size hHeld) _) (fun hHeld2 => ?_); (clear hHeld; rename _ => hHeld; clear hK K; have hHeld : Below W.heap.size W _ := hHeld); (try simp only [Act.put, List.getElem_toArray, List.getElem_cons_succ, List.getElem_cons_zero, List.setIfInBounds_toArray, List.set_cons_zero, List.set_cons_succ])
        rw [hGT]; clear hGT; obtain ⟨yw0, hwx⟩ : ∃ wx, wD.alloc (.cells #[.int .i64 0, .int .i64 0] 38) = wx := ⟨_, rfl⟩; rw [hwx] at HT hHeld ⊢; clear hwx
        refine wpAnyH_ready (rs := [2]) (by kernel_rfl) (by simp) ?_; refine AllReadyH.cons rfl (fun K hK => ?_) AllReadyH.nil
        go_simp; (go_at_call 82; refine (HSB.out _).mono ?_; rintro en yw1 ⟨rfl, hb2⟩); have HT := Lib.hid (HT.out.below hb2); refine hK.out _ _ (below_after hb2 hHeld) (fun hHeld2 => ?_); clear hb2; (clear hHeld; rename _ => hHeld; clear hK K; have hHeld : Below W.heap.size W _ := hHeld); (try simp only [Act.put, List.getElem_toArray, List.getElem_cons_succ, List.getElem_cons_zero, List.setIfInBounds_toArray, List.set_cons_zero, List.set_cons_succ])
        refine wpAnyH_ready (rs := [5]) (by kernel_rfl) (by simp) ?_; refine AllReadyH.cons rfl (fun K hK => ?_) AllReadyH.nil
        go_simp; (go_at_call 83; refine (HDT.out _).mono ?_; rintro en yw2 ⟨rfl, hb2⟩); have HT := Lib.hid (HT.out.below hb2); refine hK.out _ _ (below_after hb2 hHeld) (fun hHeld2 => ?_); clear hb2; (clear hHeld; rename _ => hHeld; clear hK K; have hHeld : Below W.heap.size W _ := hHeld); (try simp only [Act.put, List.getElem_toArray, List.getElem_cons_succ, List.getElem_cons_zero, List.setIfInBounds_toArray, List.set_cons_zero, List.set_cons_succ])
        refine wpAnyH_ready (rs := [7]) (by kernel_rfl) (by simp) ?_; refine AllReadyH.cons rfl (fun K hK => ?_) AllReadyH.nil
        obtain ⟨⟨a0, a1⟩, ⟨f0, f1⟩, az⟩ := HT.out; go_simp; clear a0 f0 a1 f1 az
        have HT := Lib.hid ((HT.out.set0 ((Y0 - X0))).set1 ((Y1 - X1)))
        refine hK.out _ _ (Below.setCell (Below.setCell hHeld (p := ⟨GT, 0, none⟩) le_T _) (p := ⟨GT, 1, none⟩) le_T _) (fun hHeld2 => ?_); (clear hHeld; rename _ => hHeld; clear hK K; have hHeld : Below W.heap.size W _ := hHeld); (try simp only [Act.put, List.getElem_toArray, List.getElem_cons_succ, List.getElem_cons_zero, List.setIfInBounds_toArray, List.set_cons_zero, List.set_cons_succ])
        obtain ⟨yw3, hwx⟩ : ∃ wx, (yw2.setCell ⟨GT, 0, none⟩ (.int .i64 ((Y0 - X0)))).setCell ⟨GT, 1, none⟩ (.int .i64 ((Y1 - X1))) = wx := ⟨_, rfl⟩; rw [hwx] at HT hHeld ⊢; clear hwx
        (refine wpAnyH_take (i := 8) (v := ?_) rfl (by kernel_rfl) (by kernel_rfl) (by kernel_rfl) (fun _ _ _ h => (by cases h.1)) (Or.inl ⟨rfl, ?_⟩) (by assumption) ?_; rotate_left; focus (intro W hSw; (try dsimp only at hSw); obtain ⟨i0, i1, i2, i3⟩ := HCL.out _ hSw; go_simp; try (with_reducible rfl))); (try simp only [Act.put, List.getElem_toArray, List.getElem_cons_succ, List.getElem_cons_zero, List.setIfInBounds_toArray, List.set_cons_zero, List.set_cons_succ])
        refine wpAnyH_done (by kernel_rfl) ?_ _
        exact ⟨rfl, GT, ⟨le_T, HT.out⟩, hHeld, rfl⟩
    · rintro e a2 w5 ⟨rfl, GT, ⟨hGT, hT⟩, hb5, rfl⟩
      have hs5 := hb5.size
      have hI5 := boxed_below hI hb5
      have HO5 := Lib.hid (own_below hO hb5)
      have HB5 : Hid (Below w.heap.size w w5) := hB.trans (hb5.mono hB.size)
      have HKO : Hid (KeepsOthers W w5) := keepsOthers_of_below hb5
      have HK5 : Hid (w5.heap[w1.heap.size + 1]? = W.heap[w1.heap.size + 1]? ∧ w5.heap[g]? = W.heap[g]?) := ⟨hb5.block _ (by omega), hb5.block _ (by omega)⟩
      have hgT : GT < w5.heap.size := hT.2.2
      have hq1 : ¬ D = 0 := by omega
      have r1 := tdiv_le (a := -(Y1 - X1)) hd1
      have r2 := tdiv_le (a := Y0 - X0) hd1
      have qn : IntKind.i64.wrap (-(Y1 - X1)) = -(Y1 - X1) := by rw [IntKind.wrap_i64]; omega
      obtain ⟨U, hU⟩ : ∃ U, (-(Y1 - X1)).tdiv D = U := ⟨_, rfl⟩
      obtain ⟨V, hV⟩ : ∃ V, (Y0 - X0).tdiv D = V := ⟨_, rfl⟩
      rw [hU] at r1 HDU
      rw [hV] at r2 HDU
      have qU : IntKind.i64.wrap U = U := by rw [IntKind.wrap_i64]; omega
      have qV : IntKind.i64.wrap V = V := by rw [IntKind.wrap_i64]; omega
      have HT5 := Lib.hid hT
      clear hb5 hT r1 r2
      gi_wp2
      refine wpIn_region_roundT (fun i => i == 13) (fun W1 => Below w.heap.size w W1 ∧ Boxed W1 w1.heap.size 25 (.slice va n vc) ∧ (W1.cell? ⟨GT, 0, none⟩ = some (.int .i64 (Y0 - X0)) ∧ W1.cell? ⟨GT, 1, none⟩ = some (.int .i64 (Y1 - X1)))) (by kernel_rfl) (by kernel_rfl) (fun _ _ q => q) ?_ (fun hS => ?_)
      · exact ⟨Below.drew HB5.out, hI5, HT5.out.1⟩
      (refine wpAnyT_take (i := 0) (v := ?_) rfl (by kernel_rfl) (by kernel_rfl) (by kernel_rfl) (by kernel_rfl) (fun _ _ _ h => h) (Or.inl ⟨rfl, ?_⟩) hS (by kernel_rfl) ?_; rotate_left; focus (intro W1 hSw; (try dsimp only at hSw); have k2 := hSw.2.1.cell; have k3 := hSw.2.2.1; have k4 := hSw.2.2.2; go_simp; try (with_reducible rfl))); (try simp only [Act.put, List.getElem_toArray, List.getElem_cons_succ, List.getElem_cons_zero, List.setIfInBounds_toArray, List.set_cons_zero, List.set_cons_succ])
      (refine wpAnyT_take (i := 1) (v := ?_) rfl (by kernel_rfl) (by kernel_rfl) (by kernel_rfl) (by kernel_rfl) (fun _ _ _ h => h) (Or.inl ⟨rfl, ?_⟩) hS (by kernel_rfl) ?_; rotate_left; focus (intro W1 hSw; (try dsimp only at hSw); have k2 := hSw.2.1.cell; have k3 := hSw.2.2.1; have k4 := hSw.2.2.2; go_simp; try (with_reducible rfl))); (try simp only [Act.put, List.getElem_toArray, List.getElem_cons_succ, List.getElem_cons_zero, List.setIfInBounds_toArray, List.set_cons_zero, List.set_cons_succ])
      (refine wpAnyT_take (i := 2) (v := ?_) rfl (by kernel_rfl) (by kernel_rfl) (by kernel_rfl) (by kernel_rfl) (fun _ _ _ h => h) (Or.inl ⟨rfl, ?_⟩) hS (by kernel_rfl) ?_; rotate_left; focus (intro W1 hSw; (try dsimp only at hSw); have k2 := hSw.2.1.cell; have k3 := hSw.2.2.1; have k4 := hSw.2.2.2; go_simp; try (with_reducible rfl))); (try simp only [Act.put, List.getElem_toArray, List.getElem_cons_succ, List.getElem_cons_zero, List.setIfInBounds_toArray, List.set_cons_zero, List.set_cons_succ])
      (refine wpAnyT_take (i := 3) (v := ?_) rfl (by kernel_rfl) (by kernel_rfl) (by kernel_rfl) (by kernel_rfl) (fun _ _ _ h => h) (Or.inl ⟨rfl, ?_⟩) hS (by kernel_rfl) ?_; rotate_left; focus (intro W1 hSw; (try dsimp only at hSw); have k2 := hSw.2.1.cell; have k3 := hSw.2.2.1; have k4 := hSw.2.2.2; go_simp; try (with_reducible rfl))); (try simp only [Act.put, List.getElem_toArray, List.getElem_cons_succ, List.getElem_cons_zero, List.setIfInBounds_toArray, List.set_cons_zero, List.set_cons_succ])
      (refine wpAnyT_take (i := 4) (v := ?_) rfl (by kernel_rfl) (by kernel_rfl) (by kernel_rfl) (by kernel_rfl) (fun _ _ _ h => h) (Or.inl ⟨rfl, ?_⟩) hS (by kernel_rfl) ?_; rotate_left; focus (intro W1 hSw; (try dsimp only at hSw); have k2 := hSw.2.1.cell; have k3 := hSw.2.2.1; have k4 := hSw.2.2.2; go_simp; try (with_reducible rfl))); (try simp only [Act.put, List.getElem_toArray, List.getElem_cons_succ, List.getElem_cons_zero, List.setIfInBounds_toArray, List.set_cons_zero, List.set_cons_succ])
      (refine wpAnyT_take (i := 5) (v := ?_) rfl (by kernel_rfl) (by kernel_rfl) (by kernel_rfl) (by kernel_rfl) (fun _ _ _ h => h) (Or.inl ⟨rfl, ?_⟩) hS (by kernel_rfl) ?_; rotate_left; focus (intro W1 hSw; (try dsimp only at hSw); have k2 := hSw.2.1.cell; have k3 := hSw.2.2.1; have k4 := hSw.2.2.2; go_simp; try (with_reducible rfl))); (try simp only [Act.put, List.getElem_toArray, List.getElem_cons_succ, List.getElem_cons_zero, List.setIfInBounds_toArray, List.set_cons_zero, List.set_cons_succ])
      (refine wpAnyT_take (i := 6) (v := ?_) rfl (by kernel_rfl) (by kernel_rfl) (by kernel_rfl) (by kernel_rfl) (fun _ _ _ h => h) (Or.inl ⟨rfl, ?_⟩) hS (by kernel_rfl) ?_; rotate_left; focus (intro W1 hSw; (try dsimp only at hSw); have k2 := hSw.2.1.cell; have k3 := hSw.2.2.1; have k4 := hSw.2.2.2; go_simp; try (with_reducible rfl))); (try simp only [Act.put, List.getElem_toArray, List.getElem_cons_succ, List.getElem_cons_zero, List.setIfInBounds_toArray, List.set_cons_zero, List.set_cons_succ])
      (refine wpAnyT_take (i := 7) (v := ?_) rfl (by kernel_rfl) (by kernel_rfl) (by kernel_rfl) (by kernel_rfl) (fun _ _ _ h => h) (Or.inl ⟨rfl, ?_⟩) hS (by kernel_rfl) ?_; rotate_left; focus (intro W1 hSw; (try dsimp only at hSw); have k2 := hSw.2.1.cell; have k3 := hSw.2.2.1; have k4 := hSw.2.2.2; go_simp; try (with_reducible rfl))); (try simp only [Act.put, List.getElem_toArray, List.getElem_cons_succ, List.getElem_cons_zero, List.setIfInBounds_toArray, List.set_cons_zero, List.set_cons_succ])
      (refine wpAnyT_take (i := 8) (v := ?_) rfl (by kernel_rfl) (by kernel_rfl) (by kernel_rfl) (by kernel_rfl) (fun _ _ _ h => h) (Or.inl ⟨rfl, ?_⟩) hS (by kernel_rfl) ?_; rotate_left; focus (intro W1 hSw; (try dsimp only at hSw); have k2 := hSw.2.1.cell; have k3 := hSw.2.2.1; have k4 := hSw.2.2.2; go_simp; try (with_reducible rfl))); (try simp only [Act.put, List.getElem_toArray, List.getElem_cons_succ, List.getElem_cons_zero, List.setIfInBounds_toArray, List.set_cons_zero, List.set_cons_succ])
      (refine wpAnyT_take (i := 9) (v := ?_) rfl (by kernel_rfl) (by kernel_rfl) (by kernel_rfl) (by kernel_rfl) (fun _ _ _ h => h) (Or.inl ⟨rfl, ?_⟩) hS (by kernel_rfl) ?_; rotate_left; focus (intro W1 hSw; (try dsimp only at hSw); have k2 := hSw.2.1.cell; have k3 := hSw.2.2.1; have k4 := hSw.2.2.2; go_simp; try (with_reducible rfl))); (try simp only [Act.put, List.getElem_toArray, List.getElem_cons_succ, List.getElem_cons_zero, List.setIfInBounds_toArray, List.set_cons_zero, List.set_cons_succ])
      (refine wpAnyT_take (i := 10) (v := ?_) rfl (by kernel_rfl) (by kernel_rfl) (by kernel_rfl) (by kernel_rfl) (fun _ _ _ h => h) (Or.inl ⟨rfl, ?_⟩) hS (by kernel_rfl) ?_; rotate_left; focus (intro W1 hSw; (try dsimp only at hSw); have k2 := hSw.2.1.cell; have k3 := hSw.2.2.1; have k4 := hSw.2.2.2; go_simp; try (with_reducible rfl))); (try simp only [Act.put, List.getElem_toArray, List.getElem_cons_succ, List.getElem_cons_zero, List.setIfInBounds_toArray, List.set_cons_zero, List.set_cons_succ])
      refine wpAnyT_one (i := 11) (by kernel_rfl) rfl (fun K hK => ?_)
      go_simp
      obtain ⟨GA, hGA⟩ : ∃ GA, w5.heap.size = GA := ⟨_, rfl⟩
      have hbA : Below w5.heap.size w5 (w5.alloc (.cells #[.int .i64 U, .int .i64 V] 38)).drew := Below.drew ((Below.refl _ _).alloc (Nat.le_refl _) _)
      have cA0 : (w5.alloc (.cells #[.int .i64 U, .int .i64 V] 38)).drew.cell? ⟨GA, 0, none⟩ = some (.int .i64 U) := by show (w5.alloc (.cells #[.int .i64 U, .int .i64 V] 38)).cell? _ = _; rw [← hGA]; go_cell
      have cA1 : (w5.alloc (.cells #[.int .i64 U, .int .i64 V] 38)).drew.cell? ⟨GA, 1, none⟩ = some (.int .i64 V) := by show (w5.alloc (.cells #[.int .i64 U, .int .i64 V] 38)).cell? _ = _; rw [← hGA]; go_cell
      have hszA : (w5.alloc (.cells #[.int .i64 U, .int .i64 V] 38)).drew.heap.size = w5.heap.size + 1 := by simp
      rw [hGA]
      have hGA5 : GA = w5.heap.size := hGA.symm
      obtain ⟨w6, hw6⟩ : ∃ w6, (w5.alloc (.cells #[.int .i64 U, .int .i64 V] 38)).drew = w6 := ⟨_, rfl⟩
      rw [hw6] at hbA cA0 cA1 hszA ⊢
      have hS6 : (fun W1 => Below w.heap.size w W1 ∧ Boxed W1 w1.heap.size 25 (.slice va n vc) ∧ (W1.cell? ⟨GT, 0, none⟩ = some (.int .i64 (Y0 - X0)) ∧ W1.cell? ⟨GT, 1, none⟩ = some (.int .i64 (Y1 - X1)))) w6 := ⟨below_after hbA HB5.out, boxed_below hI5 hbA, (HT5.out.below hbA).1⟩
      refine hK _ _ (fun _ _ => hS6) ?_
      clear hK K hS hw6 hGA
      (try simp only [Act.put, List.getElem_toArray, List.getElem_cons_succ, List.getElem_cons_zero, List.setIfInBounds_toArray, List.set_cons_zero, List.set_cons_succ])
      refine wpAnyT_one (i := 12) (by kernel_rfl) rfl (fun K hK => ?_)
      have hO6 : OwnF w.heap.size w6 (.slice va n vc) n (flat (duA ps pre)) := own_below HO5.out hbA
      refine wp_append_atF w.heap.size _ _ rfl hO6 cA0 cA1 (Below.size hS6.1) rfl rfl (by have := HN2.out; omega) ?_
      intro v' w7 hown' hgr hat
      obtain ⟨g', cap', hv'⟩ := ownsRow_succ hown'
      subst hv'
      have hne : (Value.slice va n vc).ownBlock ≠ some w1.heap.size := (hI5.not_row (by decide) HO5.out).symm
      have hI7 : Boxed w7 w1.heap.size 25 (.slice va n vc) := (boxed_below hI5 hbA).kept hgr (fun e => hne e.symm)
      have hB7 : Below w.heap.size w w7 := hS6.1.grown hgr (Below.size hS6.1) (fun k hk => (hOl k hk).1)
      have hT7 : w7.cell? ⟨GT, 0, none⟩ = some (.int .i64 (Y0 - X0)) ∧ w7.cell? ⟨GT, 1, none⟩ = some (.int .i64 (Y1 - X1)) := by
        have hb : w7.heap[GT]? = w6.heap[GT]? := hgr.block GT (by omega) (fun e => by have := hOl GT e.symm; omega)
        exact ⟨(World.cell?_of_block (a := ⟨GT, 0, none⟩) hb).trans hS6.2.2.1, (World.cell?_of_block (a := ⟨GT, 1, none⟩) hb).trans hS6.2.2.2⟩
      refine hK _ _ (fun _ _ => ⟨hB7, hI7, hT7⟩) ?_
      clear hK K
      (try simp only [Act.put, List.getElem_toArray, List.getElem_cons_succ, List.getElem_cons_zero, List.setIfInBounds_toArray, List.set_cons_zero, List.set_cons_succ])
      refine wpAnyT_one (i := 13) (by kernel_rfl) rfl (fun K hK => ?_)
      have f0 := hI7.frozen
      have f1 := hI7.cell
      go_simp
      refine hK _ _ (fun e => by cases e) ?_
      clear hK K
      (try simp only [Act.put, List.getElem_toArray, List.getElem_cons_succ, List.getElem_cons_zero, List.setIfInBounds_toArray, List.set_cons_zero, List.set_cons_succ])
      refine wpAnyT_done (by kernel_rfl) ?_ _
      gi_wp2
      have hne' : (Value.slice (some ⟨g', 0, none⟩) (n + 1) cap').ownBlock ≠ some w1.heap.size := by
        rcases hat with e | e
        · rw [e]; exact hne
        · rw [e]; intro h; have := Option.some.inj h; omega
      have hk7 : KeepsOthers w6 w7 := KeepsOthers.of_grownBy hgr (fun j o ej hj => by
        rcases hO6.2 with ⟨hv3, _⟩ | ⟨g2, cap2, cur2, hv3, _, hgg, _⟩
        · rw [hv3] at ej; simp [Value.ownBlock] at ej
        · rw [hv3] at ej
          have : g2 = j := by simpa [Value.ownBlock] using ej
          subst this
          rw [hgg] at hj; cases hj; rfl)
      have blk : ∀ k, k < W.heap.size → k ≠ w1.heap.size → (Value.slice va n vc).ownBlock ≠ some k → w5.heap[k]? = W.heap[k]? → (w7.setCell ⟨w1.heap.size, 0, none⟩ (.slice (some ⟨g', 0, none⟩) (n + 1) cap')).heap[k]? = W.heap[k]? := by
        intro k p1 p2 p3 p4
        rw [Below.heap_setCell _ _ _ _ p2, hgr.block k (by omega) (fun e => p3 e.symm), hbA.block k (by omega), p4]
      refine ⟨(((HKO.out.trans (keepsOthers_of_below hbA)).trans hk7).trans (KeepsOthers.setCell w7 ⟨w1.heap.size, 0, none⟩ _)).from _, ⟨blk _ (by omega) (by omega) hv1 HK5.out.1, blk _ (by omega) (by omega) hv2 HK5.out.2⟩, ⟨_, hI7.set _, ?_, ?_, ?_⟩, hB7.setCell (p := ⟨w1.heap.size, 0, none⟩) (by simp; omega) _, ?_⟩
      · rw [HSN.out, HDU.out, List.length_append, HN2.out]
        exact (hown'.kept (grownBy_setCell' w7 w1.heap.size _) (.inr hne') : _)
      · rcases hat with e | e
        · rw [e]; exact hv1
        · rw [e]; intro h; have := Option.some.inj h; omega
      · rcases hat with e | e
        · rw [e]; exact hv2
        · rw [e]; intro h; have := Option.some.inj h; omega
      · have := hgr.size; simp; omega
  case done =>
    rintro DD ys W hD hy ⟨⟨v, hI, hO, hv1, hv2⟩, hB, hz⟩ hK
    have hlen : ys.length = m := by have := congrArg List.length hy; simpa using this
    rw [duA_all ps ys hy, hlen] at hO
    have k1 := hI.cell
    gi_wp2
    refine ⟨by simp, .inl ⟨_, _, rfl, run_takeDeferred hK, ?_⟩⟩
    refine ⟨.tuple #[v, .int .i64 0], ?_, ⟨v, rfl, ?_, hB.trans (belowK_b (w := w) (Nat.le_refl _) W DD _ _ (by simp at hD; omega) hK rfl rfl)⟩⟩
    · simp [results, Try.f44, go_sem]
    · rw [List.length_map, List.length_range]
      exact ownsRow_putObj hO _ hK rfl
  case stop =>
    rintro DD c pre W _ _ h _
    exact h.elim
end Go.Proofs.Ytkfoelkkllpmdaa
