/-
  The list of best approximations, in the program (own work).
-/
import Derived.Test.YtibmkmcdggokbaaBeO
namespace Go.Proofs.Ytibmkmcdggokbaa
open Go.ChangeShapes Go.WideShapes Go.ChangeAt Go.RowKit
set_option linter.unusedVariables false
set_option linter.unusedSimpArgs false
set_option maxRecDepth 100000

/-- A list of points that grows by one that has just been laid. -/
theorem wpList_app_F1 (w0 : World) {W : World} {ops : Array Oper} {rest : List Oper} {o : Oper} {a : Act} {Q : Exit → Act → World → Prop} (hgd : o.guard = none) (s x : Operand)
    (ho : o.op = .call { callee := .builtin .append, args := #[s, x], argTypes := #[26, 26] })
    {v : Value} {n g c : Nat} {xs : List Int} {a0 a1 : Int} (hown : OwnF w0.heap.size W v n xs) (c0 : W.cell? ⟨g, 0, none⟩ = some (.int .i64 a0)) (c1 : W.cell? ⟨g, 1, none⟩ = some (.int .i64 a1)) (hb : Below w0.heap.size w0 W) (hs : a.eval s = v) (hx : a.eval x = .slice (some ⟨g, 0, none⟩) 1 c) (hlen : n + 1 ≤ 4194304)
    (hK : ∀ v' w', OwnF w0.heap.size w' v' (n + 1) (xs ++ [a0, a1]) → Below w0.heap.size w0 w' → wpList Try.prog ops Q rest (a.put o.dst v') w') : wpList Try.prog ops Q (o :: rest) a W := by
  obtain ⟨i0, hi, hz0, hz1, hz2⟩ := info_parts info_pt
  refine wpList_append_own _ hgd s x 26 ho w0.heap.size 31 i0 (.agg #[.int .i64 0, .int .i64 0]) 2 16 Try.underlying26 hi hz0 hz1 hz2 rfl (by decide) v _ _ hs hown ⟨g, 0, none⟩ 1 c ([a0, a1].map (Value.int .i64)) hx rfl ?_ ?_ ?_ ?_ hb.size ?_
  · intro j u hj
    match j, hj with
    | 0, hj => simp at hj; subst hj; simpa [Addr.add] using c0
    | 1, hj => simp at hj; subst hj; simpa [Addr.add] using c1
  · intro u hu; simp only [List.mem_map] at hu; obtain ⟨y, _, rfl⟩ := hu; rfl
  · unfold maxLen; omega
  · omega
  · intro v' w' h1 h2 _
    refine hK v' w' ?_ (hb.grown h2 hb.size (fun k hk => (hown.lt k hk).1))
    show w'.ownsRow w0.heap.size 31 2 v' (n + 1) ((xs ++ [a0, a1]).map (Value.int .i64))
    rw [List.map_append]; exact h1
def bsL (s : Bool) (p q n : Int) : List (Int × Int) := if rtB p q 1 = true then (if inB n 1 100000 = true then bsP p q (rcS (btK s p q) (n.toNat - 1)).1 else []) else []
def bsC (p q n : Int) : Int := if rtB p q 1 = true then (if inB n 1 100000 = true then 0 else 2) else 2
theorem bs_len (s : Bool) (p q n : Int) : (bsL s p q n).length ≤ 100000 := by
  unfold bsL
  split
  · split
    · next h =>
      have := inB_iff.1 h
      rw [bsP_len]
      have := (rcS_len (bt := btK s p q) (n.toNat - 1)).2
      omega
    · simp
  · simp
theorem bsP_take (p q : Int) (ks : List Int) (j : Nat) (h : j < ks.length) : flat (bsP p q (ks.take (j + 1))) = flat (bsP p q (ks.take j)) ++ [nrP (ks.getD j 0 * p) q, ks.getD j 0] := by
  rw [List.take_succ_eq_append_getElem h, bsP_snoc, flat_append]
  simp [flat, List.getD, h]
theorem rtnC_nil {w w' : World} {c : Int} (hb : Below w.heap.size w w') : RetPC w [] c (.returned (.tuple #[.slice none 0 0, .int .i64 c])) w' := ⟨_, rfl, World.ownsRow_nil _ _ _ _, hb⟩
theorem fld_ap0 (X K Y : Int) (w : World) : (Instr.field 54 (.agg #[.int .i64 X, .int .i64 K, .int .i64 Y]) 0).run Try.prog w = .ok (.agg #[.int .i64 X, .int .i64 K]) w := by kernel_rfl
theorem fld_ap1 (X K Y : Int) (w : World) : (Instr.field 54 (.agg #[.int .i64 X, .int .i64 K, .int .i64 Y]) 1).run Try.prog w = .ok (.int .i64 Y) w := by kernel_rfl
set_option maxHeartbeats 4000000 in
theorem bestS_any (p q n : Int) (w : World) : Calls Try.prog 22 #[.int .i64 1, .int .i64 p, .int .i64 q, .int .i64 n] w (RetPC w (bsL true p q n) (bsC p q n)) := by
  unfold bsL bsC
  have hidx := fun w => idx_kind1 w
  cases h1 : rtB p q 1
  · rw [if_neg (by decide), if_neg (by decide)]
    have hs20 : w.heap.size < w.heap.size + 1 + 1 := (by omega)
    go_enter Try.func22, Try.ntmps22
    go_wp2_with (first | (go_at_call 31; refine (isRatio_any _ _ _).mono ?_; rintro e wn ⟨rfl, rfl⟩) | (go_at_call 36; refine (isUpTo_any _ _ _).mono ?_; rintro e wn ⟨rfl, rfl⟩))
    refine bodyPost_ret (v := .tuple #[.slice none 0 0, .int .i64 2]) (by simp (maxDischargeDepth := 8) [results, Try.results22, go_sem, *]) rfl ?_
    exact rtnC_nil (by (repeat' (first | (with_reducible exact Below.refl _ _) | (with_reducible refine Below.alloc ?_ ?_ _) | (with_reducible refine Below.setCell ?_ ?_ _) | (with_reducible refine Below.drew ?_) | (with_reducible refine below_drewN ?_ _) | (with_reducible assumption) | (with_reducible refine below_after (by with_reducible assumption) ?_) | go_size)))
  · rw [if_pos rfl, if_pos rfl]
    cases h2 : inB n 1 100000
    · rw [if_neg (by decide), if_neg (by decide)]
      have hs20 : w.heap.size < w.heap.size + 1 + 1 := (by omega)
      go_enter Try.func22, Try.ntmps22
      go_wp2_with (first | (go_at_call 31; refine (isRatio_any _ _ _).mono ?_; rintro e wn ⟨rfl, rfl⟩) | (go_at_call 36; refine (isUpTo_any _ _ _).mono ?_; rintro e wn ⟨rfl, rfl⟩))
      refine bodyPost_ret (v := .tuple #[.slice none 0 0, .int .i64 2]) (by simp (maxDischargeDepth := 8) [results, Try.results22, go_sem, *]) rfl ?_
      exact rtnC_nil (by (repeat' (first | (with_reducible exact Below.refl _ _) | (with_reducible refine Below.alloc ?_ ?_ _) | (with_reducible refine Below.setCell ?_ ?_ _) | (with_reducible refine Below.drew ?_) | (with_reducible refine below_drewN ?_ _) | (with_reducible assumption) | (with_reducible refine below_after (by with_reducible assumption) ?_) | go_size)))
    · rw [if_pos rfl, if_pos rfl]
      obtain ⟨n1, n2⟩ := inB_iff.1 h2
      have HRT := Lib.hid h1
      have HR : Hid (∀ GP GQ W, Bk1 W GP p → Bk1 W GQ q → Calls Try.prog 39 #[.int .i64 n, .func (.func 37) #[] #[.pointer (some ⟨GP, 0, none⟩), .pointer (some ⟨GQ, 0, none⟩)], .func (.func 52) #[] #[]] W (RetI W (rcS (btK true p q) (n.toNat - 1)).1)) := fun GP GQ W hp hq => recS_any GP GQ p q n W hp hq h1 n1 n2
      have hln := rcS_len (bt := btK true p q) (n.toNat - 1)
      have hal := rcS_all (bt := btK true p q) (n.toNat - 1)
      obtain ⟨ks, hks⟩ : ∃ ks, (rcS (btK true p q) (n.toNat - 1)).1 = ks := ⟨_, rfl⟩
      rw [hks] at HR hln hal ⊢
      obtain ⟨m, hm⟩ : ∃ m, ks.length = m := ⟨_, rfl⟩
      rw [hm] at hln
      have HM := Lib.hid hm
      have HAL : Hid (∀ j, j < m → 1 ≤ ks.getD j 0 ∧ ks.getD j 0 ≤ 1000000) := fun j hj => by
        have := hal (ks.getD j 0) (by rw [List.getD_eq_getElem?_getD, List.getElem?_eq_getElem (by omega)]; exact List.getElem_mem _)
        omega
      have hm1 : 1 ≤ m := hln.1
      have hm2 : m ≤ 100000 := by omega
      clear hks hal hln hm h1 h2
      obtain ⟨GP, hG⟩ : ∃ G, w.heap.size = G := ⟨_, rfl⟩
      have HG := Lib.hid hG
      go_enter Try.func22, Try.ntmps22
      go_upto_region 1 with fail
      obtain ⟨w0, hw0⟩ : ∃ w0, w0 = ((w.alloc (.cells #[.int .i64 p] 2)).alloc (.cells #[.int .i64 q] 2)) := ⟨_, rfl⟩
      rw [← hw0]
      have HP : Hid (Bk1 w0 GP p) := by
        have h := (bk1_new w p 2).below (W' := ((w.alloc (.cells #[.int .i64 p] 2)).alloc (.cells #[.int .i64 q] 2))) (by (repeat' (first | (with_reducible exact Below.refl _ _) | (with_reducible refine Below.alloc ?_ ?_ _) | (with_reducible refine Below.setCell ?_ ?_ _) | (with_reducible refine Below.drew ?_) | (with_reducible refine below_drewN ?_ _) | (with_reducible assumption) | (with_reducible refine below_after (by with_reducible assumption) ?_) | go_size)))
        (try simp only [World.size_alloc] at h)
        rw [hG] at h
        rw [hw0]; exact h
      have HQ : Hid (Bk1 w0 (GP + 1) q) := by
        have h := (bk1_new (w.alloc (.cells #[.int .i64 p] 2)) q 2).below (W' := ((w.alloc (.cells #[.int .i64 p] 2)).alloc (.cells #[.int .i64 q] 2))) (by (repeat' (first | (with_reducible exact Below.refl _ _) | (with_reducible refine Below.alloc ?_ ?_ _) | (with_reducible refine Below.setCell ?_ ?_ _) | (with_reducible refine Below.drew ?_) | (with_reducible refine below_drewN ?_ _) | (with_reducible assumption) | (with_reducible refine below_after (by with_reducible assumption) ?_) | go_size)))
        (try simp only [World.size_alloc] at h)
        rw [hG] at h
        rw [hw0]; exact h
      have HB : Hid (Below w.heap.size w w0) := by show Below w.heap.size w w0; rw [hw0]; (repeat' (first | (with_reducible exact Below.refl _ _) | (with_reducible refine Below.alloc ?_ ?_ _) | (with_reducible refine Below.setCell ?_ ?_ _) | (with_reducible refine Below.drew ?_) | (with_reducible refine below_drewN ?_ _) | (with_reducible assumption) | (with_reducible refine below_after (by with_reducible assumption) ?_) | go_size))
      clear hw0
      obtain ⟨GQ, hGQ⟩ : ∃ g, GP + 1 = g := ⟨_, rfl⟩
      rw [hGQ] at HQ ⊢
      have le_P : w.heap.size ≤ GP := by omega
      have le_Q : w.heap.size ≤ GQ := by omega
      have ne_Q_P : GQ ≠ GP := by omega
      have ne_P_Q : GP ≠ GQ := by omega
      clear hGQ
      obtain ⟨qP0, fP0, zP⟩ := HP.out
      obtain ⟨qQ0, fQ0, zQ⟩ := HQ.out
      have h1 := HRT.out
      have h2 : inB n 1 100000 = true := inB_iff.2 ⟨n1, n2⟩
      go_wp2_with (first | (go_at_call 31; refine (isRatio_any _ _ _).mono ?_; rintro e wn ⟨rfl, rfl⟩) | (go_at_call 36; refine (isUpTo_any _ _ _).mono ?_; rintro e wn ⟨rfl, rfl⟩))
      go_at_call 40
      refine (kinds_any _).mono ?_
      rintro e w1 ⟨rfl, hb⟩
      clear qP0 fP0 zP qQ0 fQ0 zQ
      have HP := Lib.hid (HP.out.below hb)
      have HQ := Lib.hid (HQ.out.below hb)
      have HB := Lib.hid (below_after hb HB.out)
      clear hb h1 h2
      obtain ⟨qP0, fP0, zP⟩ := HP.out
      obtain ⟨qQ0, fQ0, zQ⟩ := HQ.out
      go_wp2_with fail
      go_at_call 39
      refine (HR.out _ _ _ HP.out HQ.out).mono ?_
      rintro e w2 ⟨v, rfl, hown, hb⟩
      clear qP0 fP0 zP qQ0 fQ0 zQ
      have HP := Lib.hid (HP.out.below hb)
      have HQ := Lib.hid (HQ.out.below hb)
      have HB := Lib.hid (below_after hb HB.out)
      clear hb
      obtain ⟨ka, kc, rfl, hkf⟩ := own_view hown
      rw [HM.out] at hkf ⊢
      obtain ⟨g, rfl, _, hg, hkc, _⟩ := hkf (by omega)
      have HKC : Hid (∀ W, Below w2.heap.size w2 W → ∀ j, j < m → W.cell? ⟨g, j, none⟩ = some (.int .i64 (ks.getD j 0))) := fun W hW j hj => (hW.cell (p := ⟨g, j, none⟩) hg).trans (hkc j hj)
      have HB2 := HB
      have HP2 := HP
      have HQ2 := HQ
      have ltP := HP.out.2.2
      have ltQ := HQ.out.2.2
      clear hown hkf hkc HR hidx
      go_wp2_with fail
      go_loopw [11, 31] (fun lv iv wr => ∃ (j : Nat) (va : Option Addr) (vc : Nat), lv = .slice va j vc ∧ iv = .int .i64 (j : Int) ∧ j ≤ m ∧ OwnF w2.heap.size wr (.slice va j vc) j (flat (bsP p q (ks.take j))) ∧ Below w2.heap.size w2 wr) (fun _ iv _ => m - (intOf iv).toNat)
      case atStart => exact ⟨0, none, 0, rfl, by go_num, by omega, World.ownsRow_nil _ _ _ _, Below.refl _ _⟩
      case round =>
        obtain ⟨j, va, vc, rfl, rfl, hj, hO, hbel⟩ := hrel
        have HO := Lib.hid hO
        have HBr := Lib.hid hbel
        clear hO hbel HB HP HQ
        by_cases hjm : j < m
        · have hk := HKC.out wr HBr.out j hjm
          obtain ⟨ka1, ka2⟩ := HAL.out j hjm
          have HST := Lib.hid (bsP_take p q ks j (by rw [HM.out]; exact hjm))
          obtain ⟨K, hK⟩ : ∃ K, ks.getD j 0 = K := ⟨_, rfl⟩
          rw [hK] at hk ka1 ka2 HST
          have HP3 := Lib.hid (HP2.out.below HBr.out)
          have HQ3 := Lib.hid (HQ2.out.below HBr.out)
          have HV : Hid (Calls Try.prog 37 #[.int .i64 K, .pointer (some ⟨GP, 0, none⟩), .pointer (some ⟨GQ, 0, none⟩)] wr fun e w' => e = .returned (.agg #[.int .i64 (nrP (K * p) q), .int .i64 K, .int .i64 (nrM (K * p) q)]) ∧ Below wr.heap.size wr w') := bestAt_any GP GQ p q K wr HP3.out HQ3.out HRT.out ka1 ka2
          obtain ⟨X, hX⟩ : ∃ X, nrP (K * p) q = X := ⟨_, rfl⟩
          obtain ⟨Y, hY⟩ : ∃ X, nrM (K * p) q = X := ⟨_, rfl⟩
          rw [hX, hY] at HV
          rw [hX] at HST
          have hgw : g < wr.heap.size := by have := HBr.out.size; omega
          have i1 : (0 : Int) ≤ (j : Int) := by omega
          have i2 : (j : Int) < (m : Int) := by omega
          clear hK hX hY HP3 HQ3
          go_wp2_with fail
          go_at_call 37
          refine HV.out.mono ?_
          rintro e w5 ⟨rfl, hb⟩
          have HO5 := Lib.hid (HO.out.below hb)
          have HB5 := Lib.hid (below_after hb HBr.out)
          have hs5 := HB5.out.size
          have HBX := Lib.hid (HB5.out.alloc hs5 (.cells #[.int .i64 X, .int .i64 K] 31))
          have hfl := fun w => fld_ap0 X K Y w
          clear hb hk HV
          go_wp2_with (at_builtin; refine wpList_app_F1 w2 (g := w5.heap.size) (a0 := X) (a1 := K) rfl _ _ rfl (World.ownsRow.alloc HO5.out _) (by go_cell) (by go_cell) HBX.out rfl rfl (by omega) ?_; intro v' w6 hO6 hB6; have hO6 := Lib.hid hO6; have hB6 := Lib.hid hB6)
          obtain ⟨va', vc', rfl, _⟩ := own_viewF hO6.out
          go_roundw
          case rel => exact ⟨j + 1, va', vc', by first | rfl | simp, by go_num, by omega, by rw [HST.out]; exact hO6.out, hB6.out⟩
          case measure => simp only [intOf]; omega
        · have hje : j = m := by omega
          subst hje
          have he : ks.take j = ks := List.take_of_length_le (by rw [HM.out]; omega)
          have q3 : ¬ (j : Int) < (j : Int) := by omega
          have hsz := HB2.out.size
          go_wp2_with fail
          refine bodyPost_ret (v := .tuple #[.slice va j vc, .int .i64 0]) (by simp (maxDischargeDepth := 8) [results, Try.results22, go_sem, *]) rfl ?_
          exact ⟨_, rfl, by rw [bsP_len, HM.out, ← he]; exact own_up HO.out hsz, below_after HBr.out HB2.out⟩
set_option maxHeartbeats 4000000 in
theorem bestF_any (p q n : Int) (w : World) : Calls Try.prog 22 #[.int .i64 0, .int .i64 p, .int .i64 q, .int .i64 n] w (RetPC w (bsL false p q n) (bsC p q n)) := by
  unfold bsL bsC
  have hidx := fun w => idx_kind0 w
  cases h1 : rtB p q 1
  · rw [if_neg (by decide), if_neg (by decide)]
    have hs20 : w.heap.size < w.heap.size + 1 + 1 := (by omega)
    go_enter Try.func22, Try.ntmps22
    go_wp2_with (first | (go_at_call 31; refine (isRatio_any _ _ _).mono ?_; rintro e wn ⟨rfl, rfl⟩) | (go_at_call 36; refine (isUpTo_any _ _ _).mono ?_; rintro e wn ⟨rfl, rfl⟩))
    refine bodyPost_ret (v := .tuple #[.slice none 0 0, .int .i64 2]) (by simp (maxDischargeDepth := 8) [results, Try.results22, go_sem, *]) rfl ?_
    exact rtnC_nil (by (repeat' (first | (with_reducible exact Below.refl _ _) | (with_reducible refine Below.alloc ?_ ?_ _) | (with_reducible refine Below.setCell ?_ ?_ _) | (with_reducible refine Below.drew ?_) | (with_reducible refine below_drewN ?_ _) | (with_reducible assumption) | (with_reducible refine below_after (by with_reducible assumption) ?_) | go_size)))
  · rw [if_pos rfl, if_pos rfl]
    cases h2 : inB n 1 100000
    · rw [if_neg (by decide), if_neg (by decide)]
      have hs20 : w.heap.size < w.heap.size + 1 + 1 := (by omega)
      go_enter Try.func22, Try.ntmps22
      go_wp2_with (first | (go_at_call 31; refine (isRatio_any _ _ _).mono ?_; rintro e wn ⟨rfl, rfl⟩) | (go_at_call 36; refine (isUpTo_any _ _ _).mono ?_; rintro e wn ⟨rfl, rfl⟩))
      refine bodyPost_ret (v := .tuple #[.slice none 0 0, .int .i64 2]) (by simp (maxDischargeDepth := 8) [results, Try.results22, go_sem, *]) rfl ?_
      exact rtnC_nil (by (repeat' (first | (with_reducible exact Below.refl _ _) | (with_reducible refine Below.alloc ?_ ?_ _) | (with_reducible refine Below.setCell ?_ ?_ _) | (with_reducible refine Below.drew ?_) | (with_reducible refine below_drewN ?_ _) | (with_reducible assumption) | (with_reducible refine below_after (by with_reducible assumption) ?_) | go_size)))
    · rw [if_pos rfl, if_pos rfl]
      obtain ⟨n1, n2⟩ := inB_iff.1 h2
      have HRT := Lib.hid h1
      have HR : Hid (∀ GP GQ W, Bk1 W GP p → Bk1 W GQ q → Calls Try.prog 39 #[.int .i64 n, .func (.func 37) #[] #[.pointer (some ⟨GP, 0, none⟩), .pointer (some ⟨GQ, 0, none⟩)], .func (.func 51) #[] #[]] W (RetI W (rcS (btK false p q) (n.toNat - 1)).1)) := fun GP GQ W hp hq => recF_any GP GQ p q n W hp hq h1 n1 n2
      have hln := rcS_len (bt := btK false p q) (n.toNat - 1)
      have hal := rcS_all (bt := btK false p q) (n.toNat - 1)
      obtain ⟨ks, hks⟩ : ∃ ks, (rcS (btK false p q) (n.toNat - 1)).1 = ks := ⟨_, rfl⟩
      rw [hks] at HR hln hal ⊢
      obtain ⟨m, hm⟩ : ∃ m, ks.length = m := ⟨_, rfl⟩
      rw [hm] at hln
      have HM := Lib.hid hm
      have HAL : Hid (∀ j, j < m → 1 ≤ ks.getD j 0 ∧ ks.getD j 0 ≤ 1000000) := fun j hj => by
        have := hal (ks.getD j 0) (by rw [List.getD_eq_getElem?_getD, List.getElem?_eq_getElem (by omega)]; exact List.getElem_mem _)
        omega
      have hm1 : 1 ≤ m := hln.1
      have hm2 : m ≤ 100000 := by omega
      clear hks hal hln hm h1 h2
      obtain ⟨GP, hG⟩ : ∃ G, w.heap.size = G := ⟨_, rfl⟩
      have HG := Lib.hid hG
      go_enter Try.func22, Try.ntmps22
      go_upto_region 1 with fail
      obtain ⟨w0, hw0⟩ : ∃ w0, w0 = ((w.alloc (.cells #[.int .i64 p] 2)).alloc (.cells #[.int .i64 q] 2)) := ⟨_, rfl⟩
      rw [← hw0]
      have HP : Hid (Bk1 w0 GP p) := by
        have h := (bk1_new w p 2).below (W' := ((w.alloc (.cells #[.int .i64 p] 2)).alloc (.cells #[.int .i64 q] 2))) (by (repeat' (first | (with_reducible exact Below.refl _ _) | (with_reducible refine Below.alloc ?_ ?_ _) | (with_reducible refine Below.setCell ?_ ?_ _) | (with_reducible refine Below.drew ?_) | (with_reducible refine below_drewN ?_ _) | (with_reducible assumption) | (with_reducible refine below_after (by with_reducible assumption) ?_) | go_size)))
        (try simp only [World.size_alloc] at h)
        rw [hG] at h
        rw [hw0]; exact h
      have HQ : Hid (Bk1 w0 (GP + 1) q) := by
        have h := (bk1_new (w.alloc (.cells #[.int .i64 p] 2)) q 2).below (W' := ((w.alloc (.cells #[.int .i64 p] 2)).alloc (.cells #[.int .i64 q] 2))) (by (repeat' (first | (with_reducible exact Below.refl _ _) | (with_reducible refine Below.alloc ?_ ?_ _) | (with_reducible refine Below.setCell ?_ ?_ _) | (with_reducible refine Below.drew ?_) | (with_reducible refine below_drewN ?_ _) | (with_reducible assumption) | (with_reducible refine below_after (by with_reducible assumption) ?_) | go_size)))
        (try simp only [World.size_alloc] at h)
        rw [hG] at h
        rw [hw0]; exact h
      have HB : Hid (Below w.heap.size w w0) := by show Below w.heap.size w w0; rw [hw0]; (repeat' (first | (with_reducible exact Below.refl _ _) | (with_reducible refine Below.alloc ?_ ?_ _) | (with_reducible refine Below.setCell ?_ ?_ _) | (with_reducible refine Below.drew ?_) | (with_reducible refine below_drewN ?_ _) | (with_reducible assumption) | (with_reducible refine below_after (by with_reducible assumption) ?_) | go_size))
      clear hw0
      obtain ⟨GQ, hGQ⟩ : ∃ g, GP + 1 = g := ⟨_, rfl⟩
      rw [hGQ] at HQ ⊢
      have le_P : w.heap.size ≤ GP := by omega
      have le_Q : w.heap.size ≤ GQ := by omega
      have ne_Q_P : GQ ≠ GP := by omega
      have ne_P_Q : GP ≠ GQ := by omega
      clear hGQ
      obtain ⟨qP0, fP0, zP⟩ := HP.out
      obtain ⟨qQ0, fQ0, zQ⟩ := HQ.out
      have h1 := HRT.out
      have h2 : inB n 1 100000 = true := inB_iff.2 ⟨n1, n2⟩
      go_wp2_with (first | (go_at_call 31; refine (isRatio_any _ _ _).mono ?_; rintro e wn ⟨rfl, rfl⟩) | (go_at_call 36; refine (isUpTo_any _ _ _).mono ?_; rintro e wn ⟨rfl, rfl⟩))
      go_at_call 40
      refine (kinds_any _).mono ?_
      rintro e w1 ⟨rfl, hb⟩
      clear qP0 fP0 zP qQ0 fQ0 zQ
      have HP := Lib.hid (HP.out.below hb)
      have HQ := Lib.hid (HQ.out.below hb)
      have HB := Lib.hid (below_after hb HB.out)
      clear hb h1 h2
      obtain ⟨qP0, fP0, zP⟩ := HP.out
      obtain ⟨qQ0, fQ0, zQ⟩ := HQ.out
      go_wp2_with fail
      go_at_call 39
      refine (HR.out _ _ _ HP.out HQ.out).mono ?_
      rintro e w2 ⟨v, rfl, hown, hb⟩
      clear qP0 fP0 zP qQ0 fQ0 zQ
      have HP := Lib.hid (HP.out.below hb)
      have HQ := Lib.hid (HQ.out.below hb)
      have HB := Lib.hid (below_after hb HB.out)
      clear hb
      obtain ⟨ka, kc, rfl, hkf⟩ := own_view hown
      rw [HM.out] at hkf ⊢
      obtain ⟨g, rfl, _, hg, hkc, _⟩ := hkf (by omega)
      have HKC : Hid (∀ W, Below w2.heap.size w2 W → ∀ j, j < m → W.cell? ⟨g, j, none⟩ = some (.int .i64 (ks.getD j 0))) := fun W hW j hj => (hW.cell (p := ⟨g, j, none⟩) hg).trans (hkc j hj)
      have HB2 := HB
      have HP2 := HP
      have HQ2 := HQ
      have ltP := HP.out.2.2
      have ltQ := HQ.out.2.2
      clear hown hkf hkc HR hidx
      go_wp2_with fail
      go_loopw [11, 31] (fun lv iv wr => ∃ (j : Nat) (va : Option Addr) (vc : Nat), lv = .slice va j vc ∧ iv = .int .i64 (j : Int) ∧ j ≤ m ∧ OwnF w2.heap.size wr (.slice va j vc) j (flat (bsP p q (ks.take j))) ∧ Below w2.heap.size w2 wr) (fun _ iv _ => m - (intOf iv).toNat)
      case atStart => exact ⟨0, none, 0, rfl, by go_num, by omega, World.ownsRow_nil _ _ _ _, Below.refl _ _⟩
      case round =>
        obtain ⟨j, va, vc, rfl, rfl, hj, hO, hbel⟩ := hrel
        have HO := Lib.hid hO
        have HBr := Lib.hid hbel
        clear hO hbel HB HP HQ
        by_cases hjm : j < m
        · have hk := HKC.out wr HBr.out j hjm
          obtain ⟨ka1, ka2⟩ := HAL.out j hjm
          have HST := Lib.hid (bsP_take p q ks j (by rw [HM.out]; exact hjm))
          obtain ⟨K, hK⟩ : ∃ K, ks.getD j 0 = K := ⟨_, rfl⟩
          rw [hK] at hk ka1 ka2 HST
          have HP3 := Lib.hid (HP2.out.below HBr.out)
          have HQ3 := Lib.hid (HQ2.out.below HBr.out)
          have HV : Hid (Calls Try.prog 37 #[.int .i64 K, .pointer (some ⟨GP, 0, none⟩), .pointer (some ⟨GQ, 0, none⟩)] wr fun e w' => e = .returned (.agg #[.int .i64 (nrP (K * p) q), .int .i64 K, .int .i64 (nrM (K * p) q)]) ∧ Below wr.heap.size wr w') := bestAt_any GP GQ p q K wr HP3.out HQ3.out HRT.out ka1 ka2
          obtain ⟨X, hX⟩ : ∃ X, nrP (K * p) q = X := ⟨_, rfl⟩
          obtain ⟨Y, hY⟩ : ∃ X, nrM (K * p) q = X := ⟨_, rfl⟩
          rw [hX, hY] at HV
          rw [hX] at HST
          have hgw : g < wr.heap.size := by have := HBr.out.size; omega
          have i1 : (0 : Int) ≤ (j : Int) := by omega
          have i2 : (j : Int) < (m : Int) := by omega
          clear hK hX hY HP3 HQ3
          go_wp2_with fail
          go_at_call 37
          refine HV.out.mono ?_
          rintro e w5 ⟨rfl, hb⟩
          have HO5 := Lib.hid (HO.out.below hb)
          have HB5 := Lib.hid (below_after hb HBr.out)
          have hs5 := HB5.out.size
          have HBX := Lib.hid (HB5.out.alloc hs5 (.cells #[.int .i64 X, .int .i64 K] 31))
          have hfl := fun w => fld_ap0 X K Y w
          clear hb hk HV
          go_wp2_with (at_builtin; refine wpList_app_F1 w2 (g := w5.heap.size) (a0 := X) (a1 := K) rfl _ _ rfl (World.ownsRow.alloc HO5.out _) (by go_cell) (by go_cell) HBX.out rfl rfl (by omega) ?_; intro v' w6 hO6 hB6; have hO6 := Lib.hid hO6; have hB6 := Lib.hid hB6)
          obtain ⟨va', vc', rfl, _⟩ := own_viewF hO6.out
          go_roundw
          case rel => exact ⟨j + 1, va', vc', by first | rfl | simp, by go_num, by omega, by rw [HST.out]; exact hO6.out, hB6.out⟩
          case measure => simp only [intOf]; omega
        · have hje : j = m := by omega
          subst hje
          have he : ks.take j = ks := List.take_of_length_le (by rw [HM.out]; omega)
          have q3 : ¬ (j : Int) < (j : Int) := by omega
          have hsz := HB2.out.size
          go_wp2_with fail
          refine bodyPost_ret (v := .tuple #[.slice va j vc, .int .i64 0]) (by simp (maxDischargeDepth := 8) [results, Try.results22, go_sem, *]) rfl ?_
          exact ⟨_, rfl, by rw [bsP_len, HM.out, ← he]; exact own_up HO.out hsz, below_after HBr.out HB2.out⟩
end Go.Proofs.Ytibmkmcdggokbaa
