/-
  Chapter 8 behind the door (own work).
-/
import Derived.Shelf.Abstract
import Derived.Test.YtjjblgmokmalaaaDoorSpN
import Derived.Test.YtjjblgmokmalaaaDoorDo8
import Derived.Test.YtjjblgmokmalaaaDoorMkE
namespace Go.Proofs.YtjjblgmokmalaaaDoor
open Go.Shelf Go.ChangeShapes Go.WideShapes Go.ChangeAt Go.RowKit
set_option linter.unusedVariables false
set_option maxRecDepth 100000
set_option linter.unusedSimpArgs false
set_option maxRecDepth 100000

theorem al_below {a : World} {o : Obj} {W : World} (h : Below (a.alloc o).heap.size (a.alloc o) W) : Below a.heap.size a W := below_after h ((Below.refl _ _).alloc (Nat.le_refl _) _)
set_option maxHeartbeats 1600000 in
theorem cl_CrossOf_pan (GP GQ : Nat) (a0 a1 a2 b0 b1 b2 : Int) (eS : Addr) (w : World) (hes : EA w 0 eS) (hk : (isSp a0 a1 a2 && isSp b0 b1 b2) = false) (hP : Bk3 w GP a0 a1 a2) (hQ : Bk3 w GQ b0 b1 b2) :
    Calls Tryd.prog 48 #[.pointer (some ⟨GP, 0, none⟩), .pointer (some ⟨GQ, 0, none⟩)] w fun e w' => e = pan eS ∧ Below w.heap.size w w' := by
  have HB := Lib.hid (Below.refl w.heap.size w)
  have HP := Lib.hid hP
  have HQ := Lib.hid hQ
  clear hP hQ
  have HES := Lib.hid hes
  have HK := Lib.hid hk
  clear hes hk
  go_enter Tryd.func48, Tryd.ntmps48
  obtain ⟨⟨qP0, qP1, qP2⟩, ⟨fP0, fP1, fP2⟩, zP⟩ := HP.out
  obtain ⟨⟨qQ0, qQ1, qQ2⟩, ⟨fQ0, fQ1, fQ2⟩, zQ⟩ := HQ.out
  have hb := HB.out
  go_wp2_with fail
  go_at_call 49
  refine (demandSpots_2n a0 a1 a2 b0 b1 b2 _ _ _ _ (HES.out.below (by (repeat' (first | (with_reducible exact Below.refl _ _) | (with_reducible refine Below.alloc ?_ ?_ _) | (with_reducible refine Below.setCell ?_ ?_ _) | (with_reducible refine Below.drew ?_) | (with_reducible refine below_drewN ?_ _) | (with_reducible assumption) | (with_reducible refine below_after (by with_reducible assumption) ?_) | go_size)))) HK.out (by simp) (by go_cell) (by go_cell) (by go_cell) (by go_cell) (by go_cell) (by go_cell)).mono ?_
  rintro e w21 ⟨rfl, hba⟩
  have hb := al_below hba
  clear hba
  clear qP0 fP0 qP1 fP1 qP2 fP2 zP qQ0 fQ0 qQ1 fQ1 qQ2 fQ2 zQ
  have HP := Lib.hid (HP.out.below hb)
  have HQ := Lib.hid (HQ.out.below hb)
  have HB := Lib.hid (below_after hb HB.out)
  clear hb
  go_wp2_with fail
  exact ⟨rfl, rfl, HB.out⟩
set_option maxHeartbeats 1600000 in
theorem cl_CrossOf_ok (GP GQ : Nat) (a0 a1 a2 b0 b1 b2 : Int)  (w : World) (hk : (isSp a0 a1 a2 && isSp b0 b1 b2) = true) (hP : Bk3 w GP a0 a1 a2) (hQ : Bk3 w GQ b0 b1 b2) :
    Calls Tryd.prog 48 #[.pointer (some ⟨GP, 0, none⟩), .pointer (some ⟨GQ, 0, none⟩)] w fun e w' => ∃ v, e = .returned (.tuple #[v, .int .i64 0]) ∧ OwnE 26 w.heap.size w' v (crL a0 a1 a2 b0 b1 b2) ∧ Below w.heap.size w w' := by
  have HB := Lib.hid (Below.refl w.heap.size w)
  have HP := Lib.hid hP
  have HQ := Lib.hid hQ
  clear hP hQ
  have HK := Lib.hid hk
  have HC : Hid (∀ w, Calls Tryd.prog 50 #[.agg #[.int .i64 a0, .int .i64 a1, .int .i64 a2], .agg #[.int .i64 b0, .int .i64 b1, .int .i64 b2]] w fun e w' => e = .returned (.agg #[.int .i64 (crX a0 a1 a2 b0 b1 b2), .int .i64 (crY a0 a1 a2 b0 b1 b2), .int .i64 (crZ a0 a1 a2 b0 b1 b2)]) ∧ Below w.heap.size w w') := fun w => by
    have h := HK.out
    simp only [Bool.and_eq_true] at h
    exact crossOf_any a0 a1 a2 b0 b1 b2 w ((isSp_W3 h.1).up (by omega)) ((isSp_W3 h.2).up (by omega))
  have HL : Hid (crL a0 a1 a2 b0 b1 b2 = [crX a0 a1 a2 b0 b1 b2, crY a0 a1 a2 b0 b1 b2, crZ a0 a1 a2 b0 b1 b2]) := by show _ = _; unfold crL bls; rw [hk]; rfl
  clear hk
  generalize crL a0 a1 a2 b0 b1 b2 = L at *
  generalize crX a0 a1 a2 b0 b1 b2 = X at *
  generalize crY a0 a1 a2 b0 b1 b2 = Y at *
  generalize crZ a0 a1 a2 b0 b1 b2 = Z at *
  go_enter Tryd.func48, Tryd.ntmps48
  obtain ⟨⟨qP0, qP1, qP2⟩, ⟨fP0, fP1, fP2⟩, zP⟩ := HP.out
  obtain ⟨⟨qQ0, qQ1, qQ2⟩, ⟨fQ0, fQ1, fQ2⟩, zQ⟩ := HQ.out
  go_wp2_with fail
  go_at_call 49
  refine (demandSpots_2y a0 a1 a2 b0 b1 b2 _ _ _ HK.out (by simp) (by go_cell) (by go_cell) (by go_cell) (by go_cell) (by go_cell) (by go_cell)).mono ?_
  rintro e w21 ⟨rfl, hba⟩
  have hb := al_below hba
  clear hba
  clear qP0 fP0 qP1 fP1 qP2 fP2 zP qQ0 fQ0 qQ1 fQ1 qQ2 fQ2 zQ
  have HP := Lib.hid (HP.out.below hb)
  have HQ := Lib.hid (HQ.out.below hb)
  have HB := Lib.hid (below_after hb HB.out)
  clear hb
  obtain ⟨⟨qP0, qP1, qP2⟩, ⟨fP0, fP1, fP2⟩, zP⟩ := HP.out
  obtain ⟨⟨qQ0, qQ1, qQ2⟩, ⟨fQ0, fQ1, fQ2⟩, zQ⟩ := HQ.out
  go_wp2_with fail
  go_at_call 50
  refine (HC.out _).mono ?_
  rintro e w22 ⟨rfl, hb⟩
  clear qP0 fP0 qP1 fP1 qP2 fP2 zP qQ0 fQ0 qQ1 fQ1 qQ2 fQ2 zQ
  have HP := Lib.hid (HP.out.below hb)
  have HQ := Lib.hid (HQ.out.below hb)
  have HB := Lib.hid (below_after hb HB.out)
  clear hb
  obtain ⟨⟨qP0, qP1, qP2⟩, ⟨fP0, fP1, fP2⟩, zP⟩ := HP.out
  obtain ⟨⟨qQ0, qQ1, qQ2⟩, ⟨fQ0, fQ1, fQ2⟩, zQ⟩ := HQ.out
  go_wp2_with fail
  refine bodyPost_ret (v := .tuple #[.slice (some ⟨w22.heap.size, 0, none⟩) 3 3, .int .i64 0]) (by simp (maxDischargeDepth := 8) [results, Tryd.results48, go_sem, *]) rfl ?_
  have hb := HB.out
  exact ⟨_, rfl, by rw [HL.out]; exact OwnE.lit3 _ _ _ _ _ hb.size, Below.alloc hb hb.size _⟩
set_option maxHeartbeats 1600000 in
theorem impl_CrossOf_any (a0 a1 a2 b0 b1 b2 : Int) (eF eS : Addr) (w : World) (hF : EA w 3 eF) (hS : EA w 0 eS) (nS : eS ≠ eF) :
    Calls Tryd.prog 16 #[.agg #[.int .i64 a0, .int .i64 a1, .int .i64 a2], .agg #[.int .i64 b0, .int .i64 b1, .int .i64 b2]] w fun e w' => ∃ v, e = .returned (.tuple #[v, .int .i64 (crK a0 a1 a2 b0 b1 b2)]) ∧ OwnE 26 w.heap.size w' v (crL a0 a1 a2 b0 b1 b2) ∧ Below w.heap.size w w' := by
  have hmf : ∀ (fn : Fn) (first cap : Array Value) (w : World), (Instr.makeFunc fn first cap).run Tryd.prog w = .ok (.func fn first cap) w := fun _ _ _ _ => rfl
  have HEF := Lib.hid hF
  have HES := Lib.hid hS
  have HNS := Lib.hid nS
  clear hF hS nS
  cases hk : (isSp a0 a1 a2 && isSp b0 b1 b2)
  · have HK := Lib.hid hk
    clear hk
    obtain ⟨GP, hG⟩ : ∃ G, w.heap.size = G := ⟨_, rfl⟩
    have HG := Lib.hid hG
    go_enter Tryd.func16, Tryd.ntmps16
    go_upto_region 1 with fail
    obtain ⟨w0, hw0⟩ : ∃ w0, w0 = ((w.alloc (.cells #[.int .i64 a0, .int .i64 a1, .int .i64 a2] 26)).alloc (.cells #[.int .i64 b0, .int .i64 b1, .int .i64 b2] 26)) := ⟨_, rfl⟩
    rw [← hw0]
    have HP : Hid (Bk3 w0 GP a0 a1 a2) := by
      have h := (bk3_new w a0 a1 a2 26).below (W' := ((w.alloc (.cells #[.int .i64 a0, .int .i64 a1, .int .i64 a2] 26)).alloc (.cells #[.int .i64 b0, .int .i64 b1, .int .i64 b2] 26))) (by (repeat' (first | (with_reducible exact Below.refl _ _) | (with_reducible refine Below.alloc ?_ ?_ _) | (with_reducible refine Below.setCell ?_ ?_ _) | (with_reducible refine Below.drew ?_) | (with_reducible refine below_drewN ?_ _) | (with_reducible assumption) | (with_reducible refine below_after (by with_reducible assumption) ?_) | go_size)))
      (try simp only [World.size_alloc] at h)
      rw [hG] at h
      rw [hw0]; exact h
    have HQ : Hid (Bk3 w0 (GP + 1) b0 b1 b2) := by
      have h := (bk3_new (w.alloc (.cells #[.int .i64 a0, .int .i64 a1, .int .i64 a2] 26)) b0 b1 b2 26).below (W' := ((w.alloc (.cells #[.int .i64 a0, .int .i64 a1, .int .i64 a2] 26)).alloc (.cells #[.int .i64 b0, .int .i64 b1, .int .i64 b2] 26))) (by (repeat' (first | (with_reducible exact Below.refl _ _) | (with_reducible refine Below.alloc ?_ ?_ _) | (with_reducible refine Below.setCell ?_ ?_ _) | (with_reducible refine Below.drew ?_) | (with_reducible refine below_drewN ?_ _) | (with_reducible assumption) | (with_reducible refine below_after (by with_reducible assumption) ?_) | go_size)))
      (try simp only [World.size_alloc] at h)
      rw [hG] at h
      rw [hw0]; exact h
    have HB : Hid (Below w.heap.size w w0) := by show Below w.heap.size w w0; rw [hw0]; (repeat' (first | (with_reducible exact Below.refl _ _) | (with_reducible refine Below.alloc ?_ ?_ _) | (with_reducible refine Below.setCell ?_ ?_ _) | (with_reducible refine Below.drew ?_) | (with_reducible refine below_drewN ?_ _) | (with_reducible assumption) | (with_reducible refine below_after (by with_reducible assumption) ?_) | go_size))
    clear hw0
    obtain ⟨GQ, hGQ⟩ : ∃ g, GP + 1 = g := ⟨_, rfl⟩
    rw [hGQ] at HQ ⊢
    have le_P : w.heap.size ≤ GP := by omega
    have le_Q : w.heap.size ≤ GQ := by omega
    have ne_Q_P : GQ ≠ GP := by omega
    have ne_P_Q : GP ≠ GQ := by omega
    clear hGQ
    obtain ⟨⟨qP0, qP1, qP2⟩, ⟨fP0, fP1, fP2⟩, zP⟩ := HP.out
    obtain ⟨⟨qQ0, qQ1, qQ2⟩, ⟨fQ0, fQ1, fQ2⟩, zQ⟩ := HQ.out
    go_wp2_with fail
    clear qP0 fP0 qP1 fP1 qP2 fP2 zP qQ0 fQ0 qQ1 fQ1 qQ2 fQ2 zQ
    go_at_call 47
    refine (door_pan_ints 48 _ eS 1 w0 (enters_of Tryd.func48 (by kernel_rfl) rfl) (fun W hW => codeOfError_one eF eS W (HEF.out.below (below_after hW HB.out)) (HES.out.below (below_after hW HB.out)).b HNS.out) (fun W hW => cl_CrossOf_pan GP GQ a0 a1 a2 b0 b1 b2 eS W (HES.out.below (below_after hW HB.out)) HK.out (HP.out.below hW) (HQ.out.below hW))).mono ?_
    rintro e w9 ⟨rfl, hb⟩
    have HB := Lib.hid (below_after hb HB.out)
    clear hb
    clear HP
    clear HQ
    go_wp2_with fail
    refine bodyPost_ret (v := .tuple #[.slice none 0 0, .int .i64 1]) (by simp (maxDischargeDepth := 8) [results, Tryd.results16, go_sem, *]) rfl ?_
    have hb := HB.out
    exact ⟨.slice none 0 0, by simp [crL, crK, bls, bok, HK.out], by simp [crL, crK, bls, bok, HK.out]; exact OwnE.nil _ _, by (repeat' (first | (with_reducible exact Below.refl _ _) | (with_reducible refine Below.alloc ?_ ?_ _) | (with_reducible refine Below.setCell ?_ ?_ _) | (with_reducible refine Below.drew ?_) | (with_reducible refine below_drewN ?_ _) | (with_reducible assumption) | (with_reducible refine below_after (by with_reducible assumption) ?_) | go_size))⟩
  · have HK := Lib.hid hk
    clear hk
    have HE : Hid (crL a0 a1 a2 b0 b1 b2 = [crX a0 a1 a2 b0 b1 b2, crY a0 a1 a2 b0 b1 b2, crZ a0 a1 a2 b0 b1 b2] ∧ crK a0 a1 a2 b0 b1 b2 = 0) := by
      refine ⟨?_, ?_⟩
      · unfold crL bls; rw [HK.out]; rfl
      · unfold crK bok; rw [HK.out]; rfl
    obtain ⟨GP, hG⟩ : ∃ G, w.heap.size = G := ⟨_, rfl⟩
    have HG := Lib.hid hG
    go_enter Tryd.func16, Tryd.ntmps16
    go_upto_region 1 with fail
    obtain ⟨w0, hw0⟩ : ∃ w0, w0 = ((w.alloc (.cells #[.int .i64 a0, .int .i64 a1, .int .i64 a2] 26)).alloc (.cells #[.int .i64 b0, .int .i64 b1, .int .i64 b2] 26)) := ⟨_, rfl⟩
    rw [← hw0]
    have HP : Hid (Bk3 w0 GP a0 a1 a2) := by
      have h := (bk3_new w a0 a1 a2 26).below (W' := ((w.alloc (.cells #[.int .i64 a0, .int .i64 a1, .int .i64 a2] 26)).alloc (.cells #[.int .i64 b0, .int .i64 b1, .int .i64 b2] 26))) (by (repeat' (first | (with_reducible exact Below.refl _ _) | (with_reducible refine Below.alloc ?_ ?_ _) | (with_reducible refine Below.setCell ?_ ?_ _) | (with_reducible refine Below.drew ?_) | (with_reducible refine below_drewN ?_ _) | (with_reducible assumption) | (with_reducible refine below_after (by with_reducible assumption) ?_) | go_size)))
      (try simp only [World.size_alloc] at h)
      rw [hG] at h
      rw [hw0]; exact h
    have HQ : Hid (Bk3 w0 (GP + 1) b0 b1 b2) := by
      have h := (bk3_new (w.alloc (.cells #[.int .i64 a0, .int .i64 a1, .int .i64 a2] 26)) b0 b1 b2 26).below (W' := ((w.alloc (.cells #[.int .i64 a0, .int .i64 a1, .int .i64 a2] 26)).alloc (.cells #[.int .i64 b0, .int .i64 b1, .int .i64 b2] 26))) (by (repeat' (first | (with_reducible exact Below.refl _ _) | (with_reducible refine Below.alloc ?_ ?_ _) | (with_reducible refine Below.setCell ?_ ?_ _) | (with_reducible refine Below.drew ?_) | (with_reducible refine below_drewN ?_ _) | (with_reducible assumption) | (with_reducible refine below_after (by with_reducible assumption) ?_) | go_size)))
      (try simp only [World.size_alloc] at h)
      rw [hG] at h
      rw [hw0]; exact h
    have HB : Hid (Below w.heap.size w w0) := by show Below w.heap.size w w0; rw [hw0]; (repeat' (first | (with_reducible exact Below.refl _ _) | (with_reducible refine Below.alloc ?_ ?_ _) | (with_reducible refine Below.setCell ?_ ?_ _) | (with_reducible refine Below.drew ?_) | (with_reducible refine below_drewN ?_ _) | (with_reducible assumption) | (with_reducible refine below_after (by with_reducible assumption) ?_) | go_size))
    clear hw0
    obtain ⟨GQ, hGQ⟩ : ∃ g, GP + 1 = g := ⟨_, rfl⟩
    rw [hGQ] at HQ ⊢
    have le_P : w.heap.size ≤ GP := by omega
    have le_Q : w.heap.size ≤ GQ := by omega
    have ne_Q_P : GQ ≠ GP := by omega
    have ne_P_Q : GP ≠ GQ := by omega
    clear hGQ
    obtain ⟨⟨qP0, qP1, qP2⟩, ⟨fP0, fP1, fP2⟩, zP⟩ := HP.out
    obtain ⟨⟨qQ0, qQ1, qQ2⟩, ⟨fQ0, fQ1, fQ2⟩, zQ⟩ := HQ.out
    go_wp2_with fail
    clear qP0 fP0 qP1 fP1 qP2 fP2 zP qQ0 fQ0 qQ1 fQ1 qQ2 fQ2 zQ
    go_at_call 47
    have hxs := HB.out.size
    refine (door_ret_ints 48 _ 0 (fun v W => OwnE 26 (w0.heap.size + 1) W v (crL a0 a1 a2 b0 b1 b2)) w0 (enters_of Tryd.func48 (by kernel_rfl) rfl) (fun v W x hv => ownsRow_setCell_below hv (Nat.lt_succ_self _) _) (fun W hW hlt => ?_)).mono ?_
    · refine (cl_CrossOf_ok GP GQ a0 a1 a2 b0 b1 b2 W HK.out (HP.out.below hW) (HQ.out.below hW)).mono ?_
      rintro e w2 ⟨v, rfl, hv, hb⟩
      exact ⟨v, rfl, own_up hv hlt, hb⟩
    rintro e w9 ⟨v, rfl, hv, hb⟩
    obtain ⟨va, vc, rfl, _⟩ := own_viewE hv
    have HV : Hid (OwnE 26 w.heap.size w9 (.slice va (crL a0 a1 a2 b0 b1 b2).length vc) (crL a0 a1 a2 b0 b1 b2)) := own_up hv (by omega)
    have HB := Lib.hid (below_after hb HB.out)
    clear hb hv
    clear HP
    clear HQ
    go_wp2_with fail
    go_ret2
    have hb := HB.out
    have hb2 := HB.out
    rw [hG] at hb2
    rw [HE.out.2]
    exact ⟨_, rfl, HV.out, by (repeat' (first | (with_reducible exact Below.refl _ _) | (with_reducible refine Below.alloc ?_ ?_ _) | (with_reducible refine Below.setCell ?_ ?_ _) | (with_reducible refine Below.drew ?_) | (with_reducible refine below_drewN ?_ _) | (with_reducible assumption) | (with_reducible refine below_after (by with_reducible assumption) ?_) | go_size))⟩
set_option maxHeartbeats 1600000 in
theorem cl_DeterminantOfSpots_pan (GP GQ GR : Nat) (a0 a1 a2 b0 b1 b2 c0 c1 c2 : Int) (eS : Addr) (w : World) (hes : EA w 0 eS) (hk : (isSp a0 a1 a2 && isSp b0 b1 b2 && isSp c0 c1 c2) = false) (hP : Bk3 w GP a0 a1 a2) (hQ : Bk3 w GQ b0 b1 b2) (hR : Bk3 w GR c0 c1 c2) :
    Calls Tryd.prog 53 #[.pointer (some ⟨GP, 0, none⟩), .pointer (some ⟨GQ, 0, none⟩), .pointer (some ⟨GR, 0, none⟩)] w fun e w' => e = pan eS ∧ Below w.heap.size w w' := by
  have HB := Lib.hid (Below.refl w.heap.size w)
  have HP := Lib.hid hP
  have HQ := Lib.hid hQ
  have HR := Lib.hid hR
  clear hP hQ hR
  have HES := Lib.hid hes
  have HK := Lib.hid hk
  clear hes hk
  go_enter Tryd.func53, Tryd.ntmps53
  obtain ⟨⟨qP0, qP1, qP2⟩, ⟨fP0, fP1, fP2⟩, zP⟩ := HP.out
  obtain ⟨⟨qQ0, qQ1, qQ2⟩, ⟨fQ0, fQ1, fQ2⟩, zQ⟩ := HQ.out
  obtain ⟨⟨qR0, qR1, qR2⟩, ⟨fR0, fR1, fR2⟩, zR⟩ := HR.out
  have hb := HB.out
  go_wp2_with fail
  go_at_call 49
  refine (demandSpots_3n a0 a1 a2 b0 b1 b2 c0 c1 c2 _ _ _ _ (HES.out.below (by (repeat' (first | (with_reducible exact Below.refl _ _) | (with_reducible refine Below.alloc ?_ ?_ _) | (with_reducible refine Below.setCell ?_ ?_ _) | (with_reducible refine Below.drew ?_) | (with_reducible refine below_drewN ?_ _) | (with_reducible assumption) | (with_reducible refine below_after (by with_reducible assumption) ?_) | go_size)))) HK.out (by simp) (by go_cell) (by go_cell) (by go_cell) (by go_cell) (by go_cell) (by go_cell) (by go_cell) (by go_cell) (by go_cell)).mono ?_
  rintro e w21 ⟨rfl, hba⟩
  have hb := al_below hba
  clear hba
  clear qP0 fP0 qP1 fP1 qP2 fP2 zP qQ0 fQ0 qQ1 fQ1 qQ2 fQ2 zQ qR0 fR0 qR1 fR1 qR2 fR2 zR
  have HP := Lib.hid (HP.out.below hb)
  have HQ := Lib.hid (HQ.out.below hb)
  have HR := Lib.hid (HR.out.below hb)
  have HB := Lib.hid (below_after hb HB.out)
  clear hb
  go_wp2_with fail
  exact ⟨rfl, rfl, HB.out⟩
set_option maxHeartbeats 1600000 in
theorem cl_DeterminantOfSpots_ok (GP GQ GR : Nat) (a0 a1 a2 b0 b1 b2 c0 c1 c2 : Int)  (w : World) (hk : (isSp a0 a1 a2 && isSp b0 b1 b2 && isSp c0 c1 c2) = true) (hP : Bk3 w GP a0 a1 a2) (hQ : Bk3 w GQ b0 b1 b2) (hR : Bk3 w GR c0 c1 c2) :
    Calls Tryd.prog 53 #[.pointer (some ⟨GP, 0, none⟩), .pointer (some ⟨GQ, 0, none⟩), .pointer (some ⟨GR, 0, none⟩)] w fun e w' => e = .returned (.tuple #[.int .i64 (detV a0 a1 a2 b0 b1 b2 c0 c1 c2), .int .i64 0]) ∧ Below w.heap.size w w' := by
  have HB := Lib.hid (Below.refl w.heap.size w)
  have HP := Lib.hid hP
  have HQ := Lib.hid hQ
  have HR := Lib.hid hR
  clear hP hQ hR
  have HK := Lib.hid hk
  have HC : Hid (∀ w, Calls Tryd.prog 54 #[.agg #[.int .i64 a0, .int .i64 a1, .int .i64 a2, .int .i64 b0, .int .i64 b1, .int .i64 b2, .int .i64 c0, .int .i64 c1, .int .i64 c2]] w fun e w' => e = .returned (.int .i64 (detV a0 a1 a2 b0 b1 b2 c0 c1 c2)) ∧ Below w.heap.size w w') := fun w => by
    have h := HK.out
    simp only [Bool.and_eq_true] at h
    exact determinantOfRays_any a0 a1 a2 b0 b1 b2 c0 c1 c2 w ((isSp_W3 h.1.1).up (by omega)) ((isSp_W3 h.1.2).up (by omega)) ((isSp_W3 h.2).up (by omega))
  clear hk
  go_enter Tryd.func53, Tryd.ntmps53
  obtain ⟨⟨qP0, qP1, qP2⟩, ⟨fP0, fP1, fP2⟩, zP⟩ := HP.out
  obtain ⟨⟨qQ0, qQ1, qQ2⟩, ⟨fQ0, fQ1, fQ2⟩, zQ⟩ := HQ.out
  obtain ⟨⟨qR0, qR1, qR2⟩, ⟨fR0, fR1, fR2⟩, zR⟩ := HR.out
  go_wp2_with fail
  go_at_call 49
  refine (demandSpots_3y a0 a1 a2 b0 b1 b2 c0 c1 c2 _ _ _ HK.out (by simp) (by go_cell) (by go_cell) (by go_cell) (by go_cell) (by go_cell) (by go_cell) (by go_cell) (by go_cell) (by go_cell)).mono ?_
  rintro e w21 ⟨rfl, hba⟩
  have hb := al_below hba
  clear hba
  clear qP0 fP0 qP1 fP1 qP2 fP2 zP qQ0 fQ0 qQ1 fQ1 qQ2 fQ2 zQ qR0 fR0 qR1 fR1 qR2 fR2 zR
  have HP := Lib.hid (HP.out.below hb)
  have HQ := Lib.hid (HQ.out.below hb)
  have HR := Lib.hid (HR.out.below hb)
  have HB := Lib.hid (below_after hb HB.out)
  clear hb
  obtain ⟨⟨qP0, qP1, qP2⟩, ⟨fP0, fP1, fP2⟩, zP⟩ := HP.out
  obtain ⟨⟨qQ0, qQ1, qQ2⟩, ⟨fQ0, fQ1, fQ2⟩, zQ⟩ := HQ.out
  obtain ⟨⟨qR0, qR1, qR2⟩, ⟨fR0, fR1, fR2⟩, zR⟩ := HR.out
  go_wp2_with fail
  go_at_call 54
  refine (HC.out _).mono ?_
  rintro e w22 ⟨rfl, hb⟩
  clear qP0 fP0 qP1 fP1 qP2 fP2 zP qQ0 fQ0 qQ1 fQ1 qQ2 fQ2 zQ qR0 fR0 qR1 fR1 qR2 fR2 zR
  have HP := Lib.hid (HP.out.below hb)
  have HQ := Lib.hid (HQ.out.below hb)
  have HR := Lib.hid (HR.out.below hb)
  have HB := Lib.hid (below_after hb HB.out)
  clear hb
  obtain ⟨⟨qP0, qP1, qP2⟩, ⟨fP0, fP1, fP2⟩, zP⟩ := HP.out
  obtain ⟨⟨qQ0, qQ1, qQ2⟩, ⟨fQ0, fQ1, fQ2⟩, zQ⟩ := HQ.out
  obtain ⟨⟨qR0, qR1, qR2⟩, ⟨fR0, fR1, fR2⟩, zR⟩ := HR.out
  go_wp2_with fail
  refine bodyPost_ret (v := .tuple #[.int .i64 (detV a0 a1 a2 b0 b1 b2 c0 c1 c2), .int .i64 0]) (by simp (maxDischargeDepth := 8) [results, Tryd.results53, go_sem, *]) rfl ?_
  have hb := HB.out
  exact ⟨rfl, by (repeat' (first | (with_reducible exact Below.refl _ _) | (with_reducible refine Below.alloc ?_ ?_ _) | (with_reducible refine Below.setCell ?_ ?_ _) | (with_reducible refine Below.drew ?_) | (with_reducible refine below_drewN ?_ _) | (with_reducible assumption) | (with_reducible refine below_after (by with_reducible assumption) ?_) | go_size))⟩
set_option maxHeartbeats 1600000 in
theorem impl_DeterminantOfSpots_any (a0 a1 a2 b0 b1 b2 c0 c1 c2 : Int) (eF eS : Addr) (w : World) (hF : EA w 3 eF) (hS : EA w 0 eS) (nS : eS ≠ eF) :
    Calls Tryd.prog 21 #[.agg #[.int .i64 a0, .int .i64 a1, .int .i64 a2], .agg #[.int .i64 b0, .int .i64 b1, .int .i64 b2], .agg #[.int .i64 c0, .int .i64 c1, .int .i64 c2]] w fun e w' => e = .returned (.tuple #[.int .i64 (dsV a0 a1 a2 b0 b1 b2 c0 c1 c2), .int .i64 (dsK a0 a1 a2 b0 b1 b2 c0 c1 c2)]) ∧ Below w.heap.size w w' := by
  have hmf : ∀ (fn : Fn) (first cap : Array Value) (w : World), (Instr.makeFunc fn first cap).run Tryd.prog w = .ok (.func fn first cap) w := fun _ _ _ _ => rfl
  have HEF := Lib.hid hF
  have HES := Lib.hid hS
  have HNS := Lib.hid nS
  clear hF hS nS
  cases hk : (isSp a0 a1 a2 && isSp b0 b1 b2 && isSp c0 c1 c2)
  · have HK := Lib.hid hk
    clear hk
    obtain ⟨GP, hG⟩ : ∃ G, w.heap.size = G := ⟨_, rfl⟩
    have HG := Lib.hid hG
    go_enter Tryd.func21, Tryd.ntmps21
    go_upto_region 1 with fail
    obtain ⟨w0, hw0⟩ : ∃ w0, w0 = (((w.alloc (.cells #[.int .i64 a0, .int .i64 a1, .int .i64 a2] 26)).alloc (.cells #[.int .i64 b0, .int .i64 b1, .int .i64 b2] 26)).alloc (.cells #[.int .i64 c0, .int .i64 c1, .int .i64 c2] 26)) := ⟨_, rfl⟩
    rw [← hw0]
    have HP : Hid (Bk3 w0 GP a0 a1 a2) := by
      have h := (bk3_new w a0 a1 a2 26).below (W' := (((w.alloc (.cells #[.int .i64 a0, .int .i64 a1, .int .i64 a2] 26)).alloc (.cells #[.int .i64 b0, .int .i64 b1, .int .i64 b2] 26)).alloc (.cells #[.int .i64 c0, .int .i64 c1, .int .i64 c2] 26))) (by (repeat' (first | (with_reducible exact Below.refl _ _) | (with_reducible refine Below.alloc ?_ ?_ _) | (with_reducible refine Below.setCell ?_ ?_ _) | (with_reducible refine Below.drew ?_) | (with_reducible refine below_drewN ?_ _) | (with_reducible assumption) | (with_reducible refine below_after (by with_reducible assumption) ?_) | go_size)))
      (try simp only [World.size_alloc] at h)
      rw [hG] at h
      rw [hw0]; exact h
    have HQ : Hid (Bk3 w0 (GP + 1) b0 b1 b2) := by
      have h := (bk3_new (w.alloc (.cells #[.int .i64 a0, .int .i64 a1, .int .i64 a2] 26)) b0 b1 b2 26).below (W' := (((w.alloc (.cells #[.int .i64 a0, .int .i64 a1, .int .i64 a2] 26)).alloc (.cells #[.int .i64 b0, .int .i64 b1, .int .i64 b2] 26)).alloc (.cells #[.int .i64 c0, .int .i64 c1, .int .i64 c2] 26))) (by (repeat' (first | (with_reducible exact Below.refl _ _) | (with_reducible refine Below.alloc ?_ ?_ _) | (with_reducible refine Below.setCell ?_ ?_ _) | (with_reducible refine Below.drew ?_) | (with_reducible refine below_drewN ?_ _) | (with_reducible assumption) | (with_reducible refine below_after (by with_reducible assumption) ?_) | go_size)))
      (try simp only [World.size_alloc] at h)
      rw [hG] at h
      rw [hw0]; exact h
    have HR : Hid (Bk3 w0 (GP + 1 + 1) c0 c1 c2) := by
      have h := (bk3_new ((w.alloc (.cells #[.int .i64 a0, .int .i64 a1, .int .i64 a2] 26)).alloc (.cells #[.int .i64 b0, .int .i64 b1, .int .i64 b2] 26)) c0 c1 c2 26).below (W' := (((w.alloc (.cells #[.int .i64 a0, .int .i64 a1, .int .i64 a2] 26)).alloc (.cells #[.int .i64 b0, .int .i64 b1, .int .i64 b2] 26)).alloc (.cells #[.int .i64 c0, .int .i64 c1, .int .i64 c2] 26))) (by (repeat' (first | (with_reducible exact Below.refl _ _) | (with_reducible refine Below.alloc ?_ ?_ _) | (with_reducible refine Below.setCell ?_ ?_ _) | (with_reducible refine Below.drew ?_) | (with_reducible refine below_drewN ?_ _) | (with_reducible assumption) | (with_reducible refine below_after (by with_reducible assumption) ?_) | go_size)))
      (try simp only [World.size_alloc] at h)
      rw [hG] at h
      rw [hw0]; exact h
    have HB : Hid (Below w.heap.size w w0) := by show Below w.heap.size w w0; rw [hw0]; (repeat' (first | (with_reducible exact Below.refl _ _) | (with_reducible refine Below.alloc ?_ ?_ _) | (with_reducible refine Below.setCell ?_ ?_ _) | (with_reducible refine Below.drew ?_) | (with_reducible refine below_drewN ?_ _) | (with_reducible assumption) | (with_reducible refine below_after (by with_reducible assumption) ?_) | go_size))
    clear hw0
    obtain ⟨GR, hGR⟩ : ∃ g, GP + 1 + 1 = g := ⟨_, rfl⟩
    rw [hGR] at HR ⊢
    obtain ⟨GQ, hGQ⟩ : ∃ g, GP + 1 = g := ⟨_, rfl⟩
    rw [hGQ] at HQ ⊢
    have le_P : w.heap.size ≤ GP := by omega
    have le_Q : w.heap.size ≤ GQ := by omega
    have ne_Q_P : GQ ≠ GP := by omega
    have ne_P_Q : GP ≠ GQ := by omega
    have le_R : w.heap.size ≤ GR := by omega
    have ne_R_P : GR ≠ GP := by omega
    have ne_P_R : GP ≠ GR := by omega
    have ne_R_Q : GR ≠ GQ := by omega
    have ne_Q_R : GQ ≠ GR := by omega
    clear hGQ hGR
    obtain ⟨⟨qP0, qP1, qP2⟩, ⟨fP0, fP1, fP2⟩, zP⟩ := HP.out
    obtain ⟨⟨qQ0, qQ1, qQ2⟩, ⟨fQ0, fQ1, fQ2⟩, zQ⟩ := HQ.out
    obtain ⟨⟨qR0, qR1, qR2⟩, ⟨fR0, fR1, fR2⟩, zR⟩ := HR.out
    go_wp2_with fail
    clear qP0 fP0 qP1 fP1 qP2 fP2 zP qQ0 fQ0 qQ1 fQ1 qQ2 fQ2 zQ qR0 fR0 qR1 fR1 qR2 fR2 zR
    go_at_call 52
    refine (door_pan_int 53 _ eS 1 w0 (enters_of Tryd.func53 (by kernel_rfl) rfl) (fun W hW => codeOfError_one eF eS W (HEF.out.below (below_after hW HB.out)) (HES.out.below (below_after hW HB.out)).b HNS.out) (fun W hW => cl_DeterminantOfSpots_pan GP GQ GR a0 a1 a2 b0 b1 b2 c0 c1 c2 eS W (HES.out.below (below_after hW HB.out)) HK.out (HP.out.below hW) (HQ.out.below hW) (HR.out.below hW))).mono ?_
    rintro e w9 ⟨rfl, hb⟩
    have HB := Lib.hid (below_after hb HB.out)
    clear hb
    clear HP
    clear HQ
    clear HR
    go_wp2_with fail
    refine bodyPost_ret (v := .tuple #[.int .i64 0, .int .i64 1]) (by simp (maxDischargeDepth := 8) [results, Tryd.results21, go_sem, *]) rfl ?_
    have hb := HB.out
    exact ⟨by simp [dsV, dsK, bvl, bok, HK.out], by (repeat' (first | (with_reducible exact Below.refl _ _) | (with_reducible refine Below.alloc ?_ ?_ _) | (with_reducible refine Below.setCell ?_ ?_ _) | (with_reducible refine Below.drew ?_) | (with_reducible refine below_drewN ?_ _) | (with_reducible assumption) | (with_reducible refine below_after (by with_reducible assumption) ?_) | go_size))⟩
  · have HK := Lib.hid hk
    clear hk
    have HE : Hid (dsV a0 a1 a2 b0 b1 b2 c0 c1 c2 = detV a0 a1 a2 b0 b1 b2 c0 c1 c2 ∧ dsK a0 a1 a2 b0 b1 b2 c0 c1 c2 = 0) := by
      refine ⟨?_, ?_⟩
      · unfold dsV bvl; rw [HK.out]; rfl
      · unfold dsK bok; rw [HK.out]; rfl
    obtain ⟨GP, hG⟩ : ∃ G, w.heap.size = G := ⟨_, rfl⟩
    have HG := Lib.hid hG
    go_enter Tryd.func21, Tryd.ntmps21
    go_upto_region 1 with fail
    obtain ⟨w0, hw0⟩ : ∃ w0, w0 = (((w.alloc (.cells #[.int .i64 a0, .int .i64 a1, .int .i64 a2] 26)).alloc (.cells #[.int .i64 b0, .int .i64 b1, .int .i64 b2] 26)).alloc (.cells #[.int .i64 c0, .int .i64 c1, .int .i64 c2] 26)) := ⟨_, rfl⟩
    rw [← hw0]
    have HP : Hid (Bk3 w0 GP a0 a1 a2) := by
      have h := (bk3_new w a0 a1 a2 26).below (W' := (((w.alloc (.cells #[.int .i64 a0, .int .i64 a1, .int .i64 a2] 26)).alloc (.cells #[.int .i64 b0, .int .i64 b1, .int .i64 b2] 26)).alloc (.cells #[.int .i64 c0, .int .i64 c1, .int .i64 c2] 26))) (by (repeat' (first | (with_reducible exact Below.refl _ _) | (with_reducible refine Below.alloc ?_ ?_ _) | (with_reducible refine Below.setCell ?_ ?_ _) | (with_reducible refine Below.drew ?_) | (with_reducible refine below_drewN ?_ _) | (with_reducible assumption) | (with_reducible refine below_after (by with_reducible assumption) ?_) | go_size)))
      (try simp only [World.size_alloc] at h)
      rw [hG] at h
      rw [hw0]; exact h
    have HQ : Hid (Bk3 w0 (GP + 1) b0 b1 b2) := by
      have h := (bk3_new (w.alloc (.cells #[.int .i64 a0, .int .i64 a1, .int .i64 a2] 26)) b0 b1 b2 26).below (W' := (((w.alloc (.cells #[.int .i64 a0, .int .i64 a1, .int .i64 a2] 26)).alloc (.cells #[.int .i64 b0, .int .i64 b1, .int .i64 b2] 26)).alloc (.cells #[.int .i64 c0, .int .i64 c1, .int .i64 c2] 26))) (by (repeat' (first | (with_reducible exact Below.refl _ _) | (with_reducible refine Below.alloc ?_ ?_ _) | (with_reducible refine Below.setCell ?_ ?_ _) | (with_reducible refine Below.drew ?_) | (with_reducible refine below_drewN ?_ _) | (with_reducible assumption) | (with_reducible refine below_after (by with_reducible assumption) ?_) | go_size)))
      (try simp only [World.size_alloc] at h)
      rw [hG] at h
      rw [hw0]; exact h
    have HR : Hid (Bk3 w0 (GP + 1 + 1) c0 c1 c2) := by
      have h := (bk3_new ((w.alloc (.cells #[.int .i64 a0, .int .i64 a1, .int .i64 a2] 26)).alloc (.cells #[.int .i64 b0, .int .i64 b1, .int .i64 b2] 26)) c0 c1 c2 26).below (W' := (((w.alloc (.cells #[.int .i64 a0, .int .i64 a1, .int .i64 a2] 26)).alloc (.cells #[.int .i64 b0, .int .i64 b1, .int .i64 b2] 26)).alloc (.cells #[.int .i64 c0, .int .i64 c1, .int .i64 c2] 26))) (by (repeat' (first | (with_reducible exact Below.refl _ _) | (with_reducible refine Below.alloc ?_ ?_ _) | (with_reducible refine Below.setCell ?_ ?_ _) | (with_reducible refine Below.drew ?_) | (with_reducible refine below_drewN ?_ _) | (with_reducible assumption) | (with_reducible refine below_after (by with_reducible assumption) ?_) | go_size)))
      (try simp only [World.size_alloc] at h)
      rw [hG] at h
      rw [hw0]; exact h
    have HB : Hid (Below w.heap.size w w0) := by show Below w.heap.size w w0; rw [hw0]; (repeat' (first | (with_reducible exact Below.refl _ _) | (with_reducible refine Below.alloc ?_ ?_ _) | (with_reducible refine Below.setCell ?_ ?_ _) | (with_reducible refine Below.drew ?_) | (with_reducible refine below_drewN ?_ _) | (with_reducible assumption) | (with_reducible refine below_after (by with_reducible assumption) ?_) | go_size))
    clear hw0
    obtain ⟨GR, hGR⟩ : ∃ g, GP + 1 + 1 = g := ⟨_, rfl⟩
    rw [hGR] at HR ⊢
    obtain ⟨GQ, hGQ⟩ : ∃ g, GP + 1 = g := ⟨_, rfl⟩
    rw [hGQ] at HQ ⊢
    have le_P : w.heap.size ≤ GP := by omega
    have le_Q : w.heap.size ≤ GQ := by omega
    have ne_Q_P : GQ ≠ GP := by omega
    have ne_P_Q : GP ≠ GQ := by omega
    have le_R : w.heap.size ≤ GR := by omega
    have ne_R_P : GR ≠ GP := by omega
    have ne_P_R : GP ≠ GR := by omega
    have ne_R_Q : GR ≠ GQ := by omega
    have ne_Q_R : GQ ≠ GR := by omega
    clear hGQ hGR
    obtain ⟨⟨qP0, qP1, qP2⟩, ⟨fP0, fP1, fP2⟩, zP⟩ := HP.out
    obtain ⟨⟨qQ0, qQ1, qQ2⟩, ⟨fQ0, fQ1, fQ2⟩, zQ⟩ := HQ.out
    obtain ⟨⟨qR0, qR1, qR2⟩, ⟨fR0, fR1, fR2⟩, zR⟩ := HR.out
    go_wp2_with fail
    clear qP0 fP0 qP1 fP1 qP2 fP2 zP qQ0 fQ0 qQ1 fQ1 qQ2 fQ2 zQ qR0 fR0 qR1 fR1 qR2 fR2 zR
    go_at_call 52
    refine (door_ret_int 53 _ 0 (fun v _ => v = .int .i64 (detV a0 a1 a2 b0 b1 b2 c0 c1 c2)) w0 (enters_of Tryd.func53 (by kernel_rfl) rfl) (fun _ _ _ h => h) (fun W hW hlt => ?_)).mono ?_
    · refine (cl_DeterminantOfSpots_ok GP GQ GR a0 a1 a2 b0 b1 b2 c0 c1 c2 W HK.out (HP.out.below hW) (HQ.out.below hW) (HR.out.below hW)).mono ?_
      rintro e w2 ⟨rfl, hb⟩
      exact ⟨_, rfl, rfl, hb⟩
    rintro e w9 ⟨v, rfl, rfl, hb⟩
    have HB := Lib.hid (below_after hb HB.out)
    clear hb
    clear HP
    clear HQ
    clear HR
    go_wp2_with fail
    refine bodyPost_ret (v := .tuple #[.int .i64 (detV a0 a1 a2 b0 b1 b2 c0 c1 c2), .int .i64 (0)]) (by simp (maxDischargeDepth := 8) [results, Tryd.results21, go_sem, *]) rfl ?_
    have hb := HB.out
    exact ⟨by rw [HE.out.1, HE.out.2], by (repeat' (first | (with_reducible exact Below.refl _ _) | (with_reducible refine Below.alloc ?_ ?_ _) | (with_reducible refine Below.setCell ?_ ?_ _) | (with_reducible refine Below.drew ?_) | (with_reducible refine below_drewN ?_ _) | (with_reducible assumption) | (with_reducible refine below_after (by with_reducible assumption) ?_) | go_size))⟩
set_option maxHeartbeats 1600000 in
theorem cl_LengthOfSpot_pan (GP : Nat) (a0 a1 a2 : Int) (eS : Addr) (w : World) (hes : EA w 0 eS) (hk : isSp a0 a1 a2 = false) (hP : Bk3 w GP a0 a1 a2) :
    Calls Tryd.prog 56 #[.pointer (some ⟨GP, 0, none⟩)] w fun e w' => e = pan eS ∧ Below w.heap.size w w' := by
  have HB := Lib.hid (Below.refl w.heap.size w)
  have HP := Lib.hid hP
  clear hP
  have HES := Lib.hid hes
  have HK := Lib.hid hk
  clear hes hk
  go_enter Tryd.func56, Tryd.ntmps56
  obtain ⟨⟨qP0, qP1, qP2⟩, ⟨fP0, fP1, fP2⟩, zP⟩ := HP.out
  have hb := HB.out
  go_wp2_with fail
  go_at_call 49
  refine (demandSpots_1n a0 a1 a2 _ _ _ _ (HES.out.below (by (repeat' (first | (with_reducible exact Below.refl _ _) | (with_reducible refine Below.alloc ?_ ?_ _) | (with_reducible refine Below.setCell ?_ ?_ _) | (with_reducible refine Below.drew ?_) | (with_reducible refine below_drewN ?_ _) | (with_reducible assumption) | (with_reducible refine below_after (by with_reducible assumption) ?_) | go_size)))) HK.out (by simp) (by go_cell) (by go_cell) (by go_cell)).mono ?_
  rintro e w21 ⟨rfl, hba⟩
  have hb := al_below hba
  clear hba
  clear qP0 fP0 qP1 fP1 qP2 fP2 zP
  have HP := Lib.hid (HP.out.below hb)
  have HB := Lib.hid (below_after hb HB.out)
  clear hb
  go_wp2_with fail
  exact ⟨rfl, rfl, HB.out⟩
set_option maxHeartbeats 1600000 in
theorem cl_LengthOfSpot_ok (GP : Nat) (a0 a1 a2 : Int)  (w : World) (hk : isSp a0 a1 a2 = true) (hP : Bk3 w GP a0 a1 a2) :
    Calls Tryd.prog 56 #[.pointer (some ⟨GP, 0, none⟩)] w fun e w' => e = .returned (.tuple #[.int .i64 (lenV a0 a1 a2), .int .i64 0]) ∧ Below w.heap.size w w' := by
  have HB := Lib.hid (Below.refl w.heap.size w)
  have HP := Lib.hid hP
  clear hP
  have HK := Lib.hid hk
  clear hk
  go_enter Tryd.func56, Tryd.ntmps56
  obtain ⟨⟨qP0, qP1, qP2⟩, ⟨fP0, fP1, fP2⟩, zP⟩ := HP.out
  go_wp2_with fail
  go_at_call 49
  refine (demandSpots_1y a0 a1 a2 _ _ _ HK.out (by simp) (by go_cell) (by go_cell) (by go_cell)).mono ?_
  rintro e w21 ⟨rfl, hba⟩
  have hb := al_below hba
  clear hba
  clear qP0 fP0 qP1 fP1 qP2 fP2 zP
  have HP := Lib.hid (HP.out.below hb)
  have HB := Lib.hid (below_after hb HB.out)
  clear hb
  obtain ⟨⟨qP0, qP1, qP2⟩, ⟨fP0, fP1, fP2⟩, zP⟩ := HP.out
  go_wp2_with fail
  go_at_call 57
  refine (lengthOfSpot_any _ _ _ _ ((isSp_W3 HK.out).up (by omega))).mono ?_
  rintro e w22 ⟨rfl, hb⟩
  clear qP0 fP0 qP1 fP1 qP2 fP2 zP
  have HP := Lib.hid (HP.out.below hb)
  have HB := Lib.hid (below_after hb HB.out)
  clear hb
  obtain ⟨⟨qP0, qP1, qP2⟩, ⟨fP0, fP1, fP2⟩, zP⟩ := HP.out
  go_wp2_with fail
  refine bodyPost_ret (v := .tuple #[.int .i64 (lenV a0 a1 a2), .int .i64 0]) (by simp (maxDischargeDepth := 8) [results, Tryd.results56, go_sem, *]) rfl ?_
  have hb := HB.out
  exact ⟨rfl, by (repeat' (first | (with_reducible exact Below.refl _ _) | (with_reducible refine Below.alloc ?_ ?_ _) | (with_reducible refine Below.setCell ?_ ?_ _) | (with_reducible refine Below.drew ?_) | (with_reducible refine below_drewN ?_ _) | (with_reducible assumption) | (with_reducible refine below_after (by with_reducible assumption) ?_) | go_size))⟩
set_option maxHeartbeats 1600000 in
theorem impl_LengthOfSpot_any (a0 a1 a2 : Int) (eF eS : Addr) (w : World) (hF : EA w 3 eF) (hS : EA w 0 eS) (nS : eS ≠ eF) :
    Calls Tryd.prog 23 #[.agg #[.int .i64 a0, .int .i64 a1, .int .i64 a2]] w fun e w' => e = .returned (.tuple #[.int .i64 (leV a0 a1 a2), .int .i64 (leK a0 a1 a2)]) ∧ Below w.heap.size w w' := by
  have hmf : ∀ (fn : Fn) (first cap : Array Value) (w : World), (Instr.makeFunc fn first cap).run Tryd.prog w = .ok (.func fn first cap) w := fun _ _ _ _ => rfl
  have HEF := Lib.hid hF
  have HES := Lib.hid hS
  have HNS := Lib.hid nS
  clear hF hS nS
  cases hk : isSp a0 a1 a2
  · have HK := Lib.hid hk
    clear hk
    obtain ⟨GP, hG⟩ : ∃ G, w.heap.size = G := ⟨_, rfl⟩
    have HG := Lib.hid hG
    go_enter Tryd.func23, Tryd.ntmps23
    go_upto_region 1 with fail
    obtain ⟨w0, hw0⟩ : ∃ w0, w0 = (w.alloc (.cells #[.int .i64 a0, .int .i64 a1, .int .i64 a2] 26)) := ⟨_, rfl⟩
    rw [← hw0]
    have HP : Hid (Bk3 w0 GP a0 a1 a2) := by
      have h := (bk3_new w a0 a1 a2 26).below (W' := (w.alloc (.cells #[.int .i64 a0, .int .i64 a1, .int .i64 a2] 26))) (by (repeat' (first | (with_reducible exact Below.refl _ _) | (with_reducible refine Below.alloc ?_ ?_ _) | (with_reducible refine Below.setCell ?_ ?_ _) | (with_reducible refine Below.drew ?_) | (with_reducible refine below_drewN ?_ _) | (with_reducible assumption) | (with_reducible refine below_after (by with_reducible assumption) ?_) | go_size)))
      (try simp only [World.size_alloc] at h)
      rw [hG] at h
      rw [hw0]; exact h
    have HB : Hid (Below w.heap.size w w0) := by show Below w.heap.size w w0; rw [hw0]; (repeat' (first | (with_reducible exact Below.refl _ _) | (with_reducible refine Below.alloc ?_ ?_ _) | (with_reducible refine Below.setCell ?_ ?_ _) | (with_reducible refine Below.drew ?_) | (with_reducible refine below_drewN ?_ _) | (with_reducible assumption) | (with_reducible refine below_after (by with_reducible assumption) ?_) | go_size))
    clear hw0
    have le_P : w.heap.size ≤ GP := by omega
    obtain ⟨⟨qP0, qP1, qP2⟩, ⟨fP0, fP1, fP2⟩, zP⟩ := HP.out
    go_wp2_with fail
    clear qP0 fP0 qP1 fP1 qP2 fP2 zP
    go_at_call 52
    refine (door_pan_int 56 _ eS 1 w0 (enters_of Tryd.func56 (by kernel_rfl) rfl) (fun W hW => codeOfError_one eF eS W (HEF.out.below (below_after hW HB.out)) (HES.out.below (below_after hW HB.out)).b HNS.out) (fun W hW => cl_LengthOfSpot_pan GP a0 a1 a2 eS W (HES.out.below (below_after hW HB.out)) HK.out (HP.out.below hW))).mono ?_
    rintro e w9 ⟨rfl, hb⟩
    have HB := Lib.hid (below_after hb HB.out)
    clear hb
    clear HP
    go_wp2_with fail
    refine bodyPost_ret (v := .tuple #[.int .i64 0, .int .i64 1]) (by simp (maxDischargeDepth := 8) [results, Tryd.results23, go_sem, *]) rfl ?_
    have hb := HB.out
    exact ⟨by simp [leV, leK, bvl, bok, HK.out], by (repeat' (first | (with_reducible exact Below.refl _ _) | (with_reducible refine Below.alloc ?_ ?_ _) | (with_reducible refine Below.setCell ?_ ?_ _) | (with_reducible refine Below.drew ?_) | (with_reducible refine below_drewN ?_ _) | (with_reducible assumption) | (with_reducible refine below_after (by with_reducible assumption) ?_) | go_size))⟩
  · have HK := Lib.hid hk
    clear hk
    obtain ⟨GP, hG⟩ : ∃ G, w.heap.size = G := ⟨_, rfl⟩
    have HG := Lib.hid hG
    go_enter Tryd.func23, Tryd.ntmps23
    go_upto_region 1 with fail
    obtain ⟨w0, hw0⟩ : ∃ w0, w0 = (w.alloc (.cells #[.int .i64 a0, .int .i64 a1, .int .i64 a2] 26)) := ⟨_, rfl⟩
    rw [← hw0]
    have HP : Hid (Bk3 w0 GP a0 a1 a2) := by
      have h := (bk3_new w a0 a1 a2 26).below (W' := (w.alloc (.cells #[.int .i64 a0, .int .i64 a1, .int .i64 a2] 26))) (by (repeat' (first | (with_reducible exact Below.refl _ _) | (with_reducible refine Below.alloc ?_ ?_ _) | (with_reducible refine Below.setCell ?_ ?_ _) | (with_reducible refine Below.drew ?_) | (with_reducible refine below_drewN ?_ _) | (with_reducible assumption) | (with_reducible refine below_after (by with_reducible assumption) ?_) | go_size)))
      (try simp only [World.size_alloc] at h)
      rw [hG] at h
      rw [hw0]; exact h
    have HB : Hid (Below w.heap.size w w0) := by show Below w.heap.size w w0; rw [hw0]; (repeat' (first | (with_reducible exact Below.refl _ _) | (with_reducible refine Below.alloc ?_ ?_ _) | (with_reducible refine Below.setCell ?_ ?_ _) | (with_reducible refine Below.drew ?_) | (with_reducible refine below_drewN ?_ _) | (with_reducible assumption) | (with_reducible refine below_after (by with_reducible assumption) ?_) | go_size))
    clear hw0
    have le_P : w.heap.size ≤ GP := by omega
    obtain ⟨⟨qP0, qP1, qP2⟩, ⟨fP0, fP1, fP2⟩, zP⟩ := HP.out
    go_wp2_with fail
    clear qP0 fP0 qP1 fP1 qP2 fP2 zP
    go_at_call 52
    refine (door_ret_int 56 _ 0 (fun v _ => v = .int .i64 (lenV a0 a1 a2)) w0 (enters_of Tryd.func56 (by kernel_rfl) rfl) (fun _ _ _ h => h) (fun W hW hlt => ?_)).mono ?_
    · refine (cl_LengthOfSpot_ok GP a0 a1 a2 W HK.out (HP.out.below hW)).mono ?_
      rintro e w2 ⟨rfl, hb⟩
      exact ⟨_, rfl, rfl, hb⟩
    rintro e w9 ⟨v, rfl, rfl, hb⟩
    have HB := Lib.hid (below_after hb HB.out)
    clear hb
    clear HP
    go_wp2_with fail
    refine bodyPost_ret (v := .tuple #[.int .i64 (lenV a0 a1 a2), .int .i64 (0)]) (by simp (maxDischargeDepth := 8) [results, Tryd.results23, go_sem, *]) rfl ?_
    have hb := HB.out
    exact ⟨by simp [leV, leK, bvl, bok, HK.out], by (repeat' (first | (with_reducible exact Below.refl _ _) | (with_reducible refine Below.alloc ?_ ?_ _) | (with_reducible refine Below.setCell ?_ ?_ _) | (with_reducible refine Below.drew ?_) | (with_reducible refine below_drewN ?_ _) | (with_reducible assumption) | (with_reducible refine below_after (by with_reducible assumption) ?_) | go_size))⟩
set_option maxHeartbeats 1600000 in
theorem cl_IsRegularCone_pan (GC : Nat) (c0 c1 c2 c3 c4 c5 c6 c7 c8 : Int) (eC : Addr) (w : World) (hes : EA w 1 eC) (hk : isCo c0 c1 c2 c3 c4 c5 c6 c7 c8 = false) (hC : Bk9 w GC c0 c1 c2 c3 c4 c5 c6 c7 c8) :
    Calls Tryd.prog 70 #[.pointer (some ⟨GC, 0, none⟩)] w fun e w' => e = pan eC ∧ Below w.heap.size w w' := by
  have HB := Lib.hid (Below.refl w.heap.size w)
  have HC := Lib.hid hC
  clear hC
  have HEC := Lib.hid hes
  have HK := Lib.hid hk
  clear hes hk
  go_enter Tryd.func70, Tryd.ntmps70
  obtain ⟨⟨qC0, qC1, qC2, qC3, qC4, qC5, qC6, qC7, qC8⟩, ⟨fC0, fC1, fC2, fC3, fC4, fC5, fC6, fC7, fC8⟩, zC⟩ := HC.out
  go_wp2_with fail
  go_at_call 61
  refine (demandCone_no c0 c1 c2 c3 c4 c5 c6 c7 c8 eC _ (HEC.out.below HB.out) HK.out).mono ?_
  rintro e w21 ⟨rfl, hb⟩
  clear qC0 fC0 qC1 fC1 qC2 fC2 qC3 fC3 qC4 fC4 qC5 fC5 qC6 fC6 qC7 fC7 qC8 fC8 zC
  have HC := Lib.hid (HC.out.below hb)
  have HB := Lib.hid (below_after hb HB.out)
  clear hb
  go_wp2_with fail
  exact ⟨rfl, rfl, HB.out⟩
set_option maxHeartbeats 1600000 in
theorem cl_IsRegularCone_ok (GC : Nat) (c0 c1 c2 c3 c4 c5 c6 c7 c8 : Int)  (w : World) (hk : isCo c0 c1 c2 c3 c4 c5 c6 c7 c8 = true) (hC : Bk9 w GC c0 c1 c2 c3 c4 c5 c6 c7 c8) :
    Calls Tryd.prog 70 #[.pointer (some ⟨GC, 0, none⟩)] w fun e w' => e = .returned (.tuple #[.bool (rcV c0 c1 c2 c3 c4 c5 c6 c7 c8), .int .i64 0]) ∧ Below w.heap.size w w' := by
  have HB := Lib.hid (Below.refl w.heap.size w)
  have HC := Lib.hid hC
  clear hC
  have HK := Lib.hid hk
  clear hk
  obtain ⟨S, hS⟩ : ∃ S, absI (detV c0 c1 c2 c3 c4 c5 c6 c7 c8) = S := ⟨_, rfl⟩
  have HSZ : Hid (∀ w, Calls Tryd.prog 71 #[.agg #[.int .i64 c0, .int .i64 c1, .int .i64 c2, .int .i64 c3, .int .i64 c4, .int .i64 c5, .int .i64 c6, .int .i64 c7, .int .i64 c8]] w fun e w' => e = .returned (.int .i64 S) ∧ Below w.heap.size w w') := fun w => by have := sizeOf_any c0 c1 c2 c3 c4 c5 c6 c7 c8 w ((isCo_parts HK.out).1.up (by omega)) ((isCo_parts HK.out).2.1.up (by omega)) ((isCo_parts HK.out).2.2.1.up (by omega)); rwa [hS] at this
  by_cases hz : S = 1
  · subst hz
    have HV : Hid (rcV c0 c1 c2 c3 c4 c5 c6 c7 c8 = true) := by show _ = _; simp [rcV, HK.out, hS]
    clear hS
    go_enter Tryd.func70, Tryd.ntmps70
    obtain ⟨⟨qC0, qC1, qC2, qC3, qC4, qC5, qC6, qC7, qC8⟩, ⟨fC0, fC1, fC2, fC3, fC4, fC5, fC6, fC7, fC8⟩, zC⟩ := HC.out
    go_wp2_with fail
    go_at_call 61
    refine (demandCone_yes c0 c1 c2 c3 c4 c5 c6 c7 c8 _ HK.out).mono ?_
    rintro e w21 ⟨rfl, hb⟩
    clear qC0 fC0 qC1 fC1 qC2 fC2 qC3 fC3 qC4 fC4 qC5 fC5 qC6 fC6 qC7 fC7 qC8 fC8 zC
    have HC := Lib.hid (HC.out.below hb)
    have HB := Lib.hid (below_after hb HB.out)
    clear hb
    obtain ⟨⟨qC0, qC1, qC2, qC3, qC4, qC5, qC6, qC7, qC8⟩, ⟨fC0, fC1, fC2, fC3, fC4, fC5, fC6, fC7, fC8⟩, zC⟩ := HC.out
    go_wp2_with fail
    go_at_call 71
    refine (HSZ.out _).mono ?_
    rintro e w22 ⟨rfl, hb⟩
    clear qC0 fC0 qC1 fC1 qC2 fC2 qC3 fC3 qC4 fC4 qC5 fC5 qC6 fC6 qC7 fC7 qC8 fC8 zC
    have HC := Lib.hid (HC.out.below hb)
    have HB := Lib.hid (below_after hb HB.out)
    clear hb
    obtain ⟨⟨qC0, qC1, qC2, qC3, qC4, qC5, qC6, qC7, qC8⟩, ⟨fC0, fC1, fC2, fC3, fC4, fC5, fC6, fC7, fC8⟩, zC⟩ := HC.out
    go_wp2_with fail
    refine bodyPost_ret (v := .tuple #[.bool true, .int .i64 0]) (by simp (maxDischargeDepth := 8) [results, Tryd.results70, go_sem, *]) rfl ?_
    have hb := HB.out
    exact ⟨by rw [HV.out], by (repeat' (first | (with_reducible exact Below.refl _ _) | (with_reducible refine Below.alloc ?_ ?_ _) | (with_reducible refine Below.setCell ?_ ?_ _) | (with_reducible refine Below.drew ?_) | (with_reducible refine below_drewN ?_ _) | (with_reducible assumption) | (with_reducible refine below_after (by with_reducible assumption) ?_) | go_size))⟩
  · have HV : Hid (rcV c0 c1 c2 c3 c4 c5 c6 c7 c8 = false) := by show _ = _; simp [rcV, HK.out, hS, hz]
    have hz2 : (S == 1) = false := by simpa using hz
    clear hS
    go_enter Tryd.func70, Tryd.ntmps70
    obtain ⟨⟨qC0, qC1, qC2, qC3, qC4, qC5, qC6, qC7, qC8⟩, ⟨fC0, fC1, fC2, fC3, fC4, fC5, fC6, fC7, fC8⟩, zC⟩ := HC.out
    go_wp2_with fail
    go_at_call 61
    refine (demandCone_yes c0 c1 c2 c3 c4 c5 c6 c7 c8 _ HK.out).mono ?_
    rintro e w21 ⟨rfl, hb⟩
    clear qC0 fC0 qC1 fC1 qC2 fC2 qC3 fC3 qC4 fC4 qC5 fC5 qC6 fC6 qC7 fC7 qC8 fC8 zC
    have HC := Lib.hid (HC.out.below hb)
    have HB := Lib.hid (below_after hb HB.out)
    clear hb
    obtain ⟨⟨qC0, qC1, qC2, qC3, qC4, qC5, qC6, qC7, qC8⟩, ⟨fC0, fC1, fC2, fC3, fC4, fC5, fC6, fC7, fC8⟩, zC⟩ := HC.out
    go_wp2_with fail
    go_at_call 71
    refine (HSZ.out _).mono ?_
    rintro e w22 ⟨rfl, hb⟩
    clear qC0 fC0 qC1 fC1 qC2 fC2 qC3 fC3 qC4 fC4 qC5 fC5 qC6 fC6 qC7 fC7 qC8 fC8 zC
    have HC := Lib.hid (HC.out.below hb)
    have HB := Lib.hid (below_after hb HB.out)
    clear hb
    obtain ⟨⟨qC0, qC1, qC2, qC3, qC4, qC5, qC6, qC7, qC8⟩, ⟨fC0, fC1, fC2, fC3, fC4, fC5, fC6, fC7, fC8⟩, zC⟩ := HC.out
    go_wp2_with fail
    refine bodyPost_ret (v := .tuple #[.bool false, .int .i64 0]) (by simp (maxDischargeDepth := 8) [results, Tryd.results70, go_sem, *]) rfl ?_
    have hb := HB.out
    exact ⟨by rw [HV.out], by (repeat' (first | (with_reducible exact Below.refl _ _) | (with_reducible refine Below.alloc ?_ ?_ _) | (with_reducible refine Below.setCell ?_ ?_ _) | (with_reducible refine Below.drew ?_) | (with_reducible refine below_drewN ?_ _) | (with_reducible assumption) | (with_reducible refine below_after (by with_reducible assumption) ?_) | go_size))⟩
set_option maxHeartbeats 1600000 in
theorem impl_IsRegularCone_any (c0 c1 c2 c3 c4 c5 c6 c7 c8 : Int) (eF eC : Addr) (w : World) (hF : EA w 3 eF) (hC : EA w 1 eC) (nC : eC ≠ eF) :
    Calls Tryd.prog 30 #[.agg #[.int .i64 c0, .int .i64 c1, .int .i64 c2, .int .i64 c3, .int .i64 c4, .int .i64 c5, .int .i64 c6, .int .i64 c7, .int .i64 c8]] w fun e w' => e = .returned (.tuple #[.bool (rcV c0 c1 c2 c3 c4 c5 c6 c7 c8), .int .i64 (bok (isCo c0 c1 c2 c3 c4 c5 c6 c7 c8))]) ∧ Below w.heap.size w w' := by
  have hmf : ∀ (fn : Fn) (first cap : Array Value) (w : World), (Instr.makeFunc fn first cap).run Tryd.prog w = .ok (.func fn first cap) w := fun _ _ _ _ => rfl
  have HEF := Lib.hid hF
  have HEC := Lib.hid hC
  have HNC := Lib.hid nC
  clear hF hC nC
  cases hk : isCo c0 c1 c2 c3 c4 c5 c6 c7 c8
  · have HK := Lib.hid hk
    clear hk
    obtain ⟨GC, hG⟩ : ∃ G, w.heap.size = G := ⟨_, rfl⟩
    have HG := Lib.hid hG
    go_enter Tryd.func30, Tryd.ntmps30
    go_upto_region 1 with fail
    obtain ⟨w0, hw0⟩ : ∃ w0, w0 = (w.alloc (.cells #[.int .i64 c0, .int .i64 c1, .int .i64 c2, .int .i64 c3, .int .i64 c4, .int .i64 c5, .int .i64 c6, .int .i64 c7, .int .i64 c8] 39)) := ⟨_, rfl⟩
    rw [← hw0]
    have HC : Hid (Bk9 w0 GC c0 c1 c2 c3 c4 c5 c6 c7 c8) := by
      have h := (bk9_new w c0 c1 c2 c3 c4 c5 c6 c7 c8 39).below (W' := (w.alloc (.cells #[.int .i64 c0, .int .i64 c1, .int .i64 c2, .int .i64 c3, .int .i64 c4, .int .i64 c5, .int .i64 c6, .int .i64 c7, .int .i64 c8] 39))) (by (repeat' (first | (with_reducible exact Below.refl _ _) | (with_reducible refine Below.alloc ?_ ?_ _) | (with_reducible refine Below.setCell ?_ ?_ _) | (with_reducible refine Below.drew ?_) | (with_reducible refine below_drewN ?_ _) | (with_reducible assumption) | (with_reducible refine below_after (by with_reducible assumption) ?_) | go_size)))
      (try simp only [World.size_alloc] at h)
      rw [hG] at h
      rw [hw0]; exact h
    have HB : Hid (Below w.heap.size w w0) := by show Below w.heap.size w w0; rw [hw0]; (repeat' (first | (with_reducible exact Below.refl _ _) | (with_reducible refine Below.alloc ?_ ?_ _) | (with_reducible refine Below.setCell ?_ ?_ _) | (with_reducible refine Below.drew ?_) | (with_reducible refine below_drewN ?_ _) | (with_reducible assumption) | (with_reducible refine below_after (by with_reducible assumption) ?_) | go_size))
    clear hw0
    have le_C : w.heap.size ≤ GC := by omega
    obtain ⟨⟨qC0, qC1, qC2, qC3, qC4, qC5, qC6, qC7, qC8⟩, ⟨fC0, fC1, fC2, fC3, fC4, fC5, fC6, fC7, fC8⟩, zC⟩ := HC.out
    go_wp2_with fail
    clear qC0 fC0 qC1 fC1 qC2 fC2 qC3 fC3 qC4 fC4 qC5 fC5 qC6 fC6 qC7 fC7 qC8 fC8 zC
    go_at_call 65
    refine (door_pan_bool 70 _ eC 1 w0 (enters_of Tryd.func70 (by kernel_rfl) rfl) (fun W hW => codeOfError_one eF eC W (HEF.out.below (below_after hW HB.out)) (HEC.out.below (below_after hW HB.out)).b HNC.out) (fun W hW => cl_IsRegularCone_pan GC c0 c1 c2 c3 c4 c5 c6 c7 c8 eC W (HEC.out.below (below_after hW HB.out)) HK.out (HC.out.below hW))).mono ?_
    rintro e w9 ⟨rfl, hb⟩
    have HB := Lib.hid (below_after hb HB.out)
    clear hb
    clear HC
    go_wp2_with fail
    refine bodyPost_ret (v := .tuple #[.bool false, .int .i64 1]) (by simp (maxDischargeDepth := 8) [results, Tryd.results30, go_sem, *]) rfl ?_
    have hb := HB.out
    exact ⟨by simp [rcV, bok, HK.out], by (repeat' (first | (with_reducible exact Below.refl _ _) | (with_reducible refine Below.alloc ?_ ?_ _) | (with_reducible refine Below.setCell ?_ ?_ _) | (with_reducible refine Below.drew ?_) | (with_reducible refine below_drewN ?_ _) | (with_reducible assumption) | (with_reducible refine below_after (by with_reducible assumption) ?_) | go_size))⟩
  · have HK := Lib.hid hk
    clear hk
    obtain ⟨GC, hG⟩ : ∃ G, w.heap.size = G := ⟨_, rfl⟩
    have HG := Lib.hid hG
    go_enter Tryd.func30, Tryd.ntmps30
    go_upto_region 1 with fail
    obtain ⟨w0, hw0⟩ : ∃ w0, w0 = (w.alloc (.cells #[.int .i64 c0, .int .i64 c1, .int .i64 c2, .int .i64 c3, .int .i64 c4, .int .i64 c5, .int .i64 c6, .int .i64 c7, .int .i64 c8] 39)) := ⟨_, rfl⟩
    rw [← hw0]
    have HC : Hid (Bk9 w0 GC c0 c1 c2 c3 c4 c5 c6 c7 c8) := by
      have h := (bk9_new w c0 c1 c2 c3 c4 c5 c6 c7 c8 39).below (W' := (w.alloc (.cells #[.int .i64 c0, .int .i64 c1, .int .i64 c2, .int .i64 c3, .int .i64 c4, .int .i64 c5, .int .i64 c6, .int .i64 c7, .int .i64 c8] 39))) (by (repeat' (first | (with_reducible exact Below.refl _ _) | (with_reducible refine Below.alloc ?_ ?_ _) | (with_reducible refine Below.setCell ?_ ?_ _) | (with_reducible refine Below.drew ?_) | (with_reducible refine below_drewN ?_ _) | (with_reducible assumption) | (with_reducible refine below_after (by with_reducible assumption) ?_) | go_size)))
      (try simp only [World.size_alloc] at h)
      rw [hG] at h
      rw [hw0]; exact h
    have HB : Hid (Below w.heap.size w w0) := by show Below w.heap.size w w0; rw [hw0]; (repeat' (first | (with_reducible exact Below.refl _ _) | (with_reducible refine Below.alloc ?_ ?_ _) | (with_reducible refine Below.setCell ?_ ?_ _) | (with_reducible refine Below.drew ?_) | (with_reducible refine below_drewN ?_ _) | (with_reducible assumption) | (with_reducible refine below_after (by with_reducible assumption) ?_) | go_size))
    clear hw0
    have le_C : w.heap.size ≤ GC := by omega
    obtain ⟨⟨qC0, qC1, qC2, qC3, qC4, qC5, qC6, qC7, qC8⟩, ⟨fC0, fC1, fC2, fC3, fC4, fC5, fC6, fC7, fC8⟩, zC⟩ := HC.out
    go_wp2_with fail
    clear qC0 fC0 qC1 fC1 qC2 fC2 qC3 fC3 qC4 fC4 qC5 fC5 qC6 fC6 qC7 fC7 qC8 fC8 zC
    go_at_call 65
    refine (door_ret_bool 70 _ 0 (fun v _ => v = .bool (rcV c0 c1 c2 c3 c4 c5 c6 c7 c8)) w0 (enters_of Tryd.func70 (by kernel_rfl) rfl) (fun _ _ _ h => h) (fun W hW hlt => ?_)).mono ?_
    · refine (cl_IsRegularCone_ok GC c0 c1 c2 c3 c4 c5 c6 c7 c8 W HK.out (HC.out.below hW)).mono ?_
      rintro e w2 ⟨rfl, hb⟩
      exact ⟨_, rfl, rfl, hb⟩
    rintro e w9 ⟨v, rfl, rfl, hb⟩
    have HB := Lib.hid (below_after hb HB.out)
    clear hb
    clear HC
    go_wp2_with fail
    refine bodyPost_ret (v := .tuple #[.bool (rcV c0 c1 c2 c3 c4 c5 c6 c7 c8), .int .i64 (0)]) (by simp (maxDischargeDepth := 8) [results, Tryd.results30, go_sem, *]) rfl ?_
    have hb := HB.out
    exact ⟨rfl, by (repeat' (first | (with_reducible exact Below.refl _ _) | (with_reducible refine Below.alloc ?_ ?_ _) | (with_reducible refine Below.setCell ?_ ?_ _) | (with_reducible refine Below.drew ?_) | (with_reducible refine below_drewN ?_ _) | (with_reducible assumption) | (with_reducible refine below_after (by with_reducible assumption) ?_) | go_size))⟩
set_option maxHeartbeats 1600000 in
theorem cl_VolumeOf_pan (GT : Nat) (t0 t1 t2 t3 t4 t5 t6 t7 t8 t9 t10 t11 : Int) (eT : Addr) (w : World) (hes : EA w 2 eT) (hk : isTe t0 t1 t2 t3 t4 t5 t6 t7 t8 t9 t10 t11 = false) (hT : Bk12 w GT t0 t1 t2 t3 t4 t5 t6 t7 t8 t9 t10 t11) :
    Calls Tryd.prog 78 #[.pointer (some ⟨GT, 0, none⟩)] w fun e w' => e = pan eT ∧ Below w.heap.size w w' := by
  have HB := Lib.hid (Below.refl w.heap.size w)
  have HT := Lib.hid hT
  clear hT
  have HET := Lib.hid hes
  have HK := Lib.hid hk
  clear hes hk
  go_enter Tryd.func78, Tryd.ntmps78
  obtain ⟨⟨qT0, qT1, qT2, qT3, qT4, qT5, qT6, qT7, qT8, qT9, qT10, qT11⟩, ⟨fT0, fT1, fT2, fT3, fT4, fT5, fT6, fT7, fT8, fT9, fT10, fT11⟩, zT⟩ := HT.out
  go_wp2_with fail
  go_at_call 79
  refine (demandTetra_no t0 t1 t2 t3 t4 t5 t6 t7 t8 t9 t10 t11 eT _ (HET.out.below HB.out) HK.out).mono ?_
  rintro e w21 ⟨rfl, hb⟩
  clear qT0 fT0 qT1 fT1 qT2 fT2 qT3 fT3 qT4 fT4 qT5 fT5 qT6 fT6 qT7 fT7 qT8 fT8 qT9 fT9 qT10 fT10 qT11 fT11 zT
  have HT := Lib.hid (HT.out.below hb)
  have HB := Lib.hid (below_after hb HB.out)
  clear hb
  go_wp2_with fail
  exact ⟨rfl, rfl, HB.out⟩
set_option maxHeartbeats 1600000 in
theorem cl_VolumeOf_ok (GT : Nat) (t0 t1 t2 t3 t4 t5 t6 t7 t8 t9 t10 t11 : Int)  (w : World) (hk : isTe t0 t1 t2 t3 t4 t5 t6 t7 t8 t9 t10 t11 = true) (hT : Bk12 w GT t0 t1 t2 t3 t4 t5 t6 t7 t8 t9 t10 t11) :
    Calls Tryd.prog 78 #[.pointer (some ⟨GT, 0, none⟩)] w fun e w' => e = .returned (.tuple #[.int .i64 (voV t0 t1 t2 t3 t4 t5 t6 t7 t8 t9 t10 t11), .int .i64 0]) ∧ Below w.heap.size w w' := by
  have HB := Lib.hid (Below.refl w.heap.size w)
  have HT := Lib.hid hT
  clear hT
  have HK := Lib.hid hk
  clear hk
  have HSZ : Hid (∀ w, Calls Tryd.prog 71 #[.agg #[.int .i64 (t3 - t0), .int .i64 (t4 - t1), .int .i64 (t5 - t2), .int .i64 (t6 - t0), .int .i64 (t7 - t1), .int .i64 (t8 - t2), .int .i64 (t9 - t0), .int .i64 (t10 - t1), .int .i64 (t11 - t2)]] w fun e w' => e = .returned (.int .i64 (voV t0 t1 t2 t3 t4 t5 t6 t7 t8 t9 t10 t11)) ∧ Below w.heap.size w w') := fun w => sizeOf_any (t3 - t0) (t4 - t1) (t5 - t2) (t6 - t0) (t7 - t1) (t8 - t2) (t9 - t0) (t10 - t1) (t11 - t2) w (((isTe_parts HK.out).2.1.sub (isTe_parts HK.out).1).up (by omega)) (((isTe_parts HK.out).2.2.1.sub (isTe_parts HK.out).1).up (by omega)) (((isTe_parts HK.out).2.2.2.1.sub (isTe_parts HK.out).1).up (by omega))
  go_enter Tryd.func78, Tryd.ntmps78
  obtain ⟨⟨qT0, qT1, qT2, qT3, qT4, qT5, qT6, qT7, qT8, qT9, qT10, qT11⟩, ⟨fT0, fT1, fT2, fT3, fT4, fT5, fT6, fT7, fT8, fT9, fT10, fT11⟩, zT⟩ := HT.out
  go_wp2_with fail
  go_at_call 79
  refine (demandTetra_yes t0 t1 t2 t3 t4 t5 t6 t7 t8 t9 t10 t11 _ HK.out).mono ?_
  rintro e w21 ⟨rfl, hb⟩
  clear qT0 fT0 qT1 fT1 qT2 fT2 qT3 fT3 qT4 fT4 qT5 fT5 qT6 fT6 qT7 fT7 qT8 fT8 qT9 fT9 qT10 fT10 qT11 fT11 zT
  have HT := Lib.hid (HT.out.below hb)
  have HB := Lib.hid (below_after hb HB.out)
  clear hb
  obtain ⟨⟨qT0, qT1, qT2, qT3, qT4, qT5, qT6, qT7, qT8, qT9, qT10, qT11⟩, ⟨fT0, fT1, fT2, fT3, fT4, fT5, fT6, fT7, fT8, fT9, fT10, fT11⟩, zT⟩ := HT.out
  go_wp2_with fail
  go_at_call 80
  refine (edgesOf_any _ _ _ _ _ _ _ _ _ _ _ _ _ (isTe_parts HK.out).1 (isTe_parts HK.out).2.1 (isTe_parts HK.out).2.2.1 (isTe_parts HK.out).2.2.2.1).mono ?_
  rintro e w22 ⟨rfl, hb⟩
  clear qT0 fT0 qT1 fT1 qT2 fT2 qT3 fT3 qT4 fT4 qT5 fT5 qT6 fT6 qT7 fT7 qT8 fT8 qT9 fT9 qT10 fT10 qT11 fT11 zT
  have HT := Lib.hid (HT.out.below hb)
  have HB := Lib.hid (below_after hb HB.out)
  clear hb
  obtain ⟨⟨qT0, qT1, qT2, qT3, qT4, qT5, qT6, qT7, qT8, qT9, qT10, qT11⟩, ⟨fT0, fT1, fT2, fT3, fT4, fT5, fT6, fT7, fT8, fT9, fT10, fT11⟩, zT⟩ := HT.out
  go_wp2_with fail
  go_at_call 71
  refine (HSZ.out _).mono ?_
  rintro e w23 ⟨rfl, hb⟩
  clear qT0 fT0 qT1 fT1 qT2 fT2 qT3 fT3 qT4 fT4 qT5 fT5 qT6 fT6 qT7 fT7 qT8 fT8 qT9 fT9 qT10 fT10 qT11 fT11 zT
  have HT := Lib.hid (HT.out.below hb)
  have HB := Lib.hid (below_after hb HB.out)
  clear hb
  obtain ⟨⟨qT0, qT1, qT2, qT3, qT4, qT5, qT6, qT7, qT8, qT9, qT10, qT11⟩, ⟨fT0, fT1, fT2, fT3, fT4, fT5, fT6, fT7, fT8, fT9, fT10, fT11⟩, zT⟩ := HT.out
  go_wp2_with fail
  refine bodyPost_ret (v := .tuple #[.int .i64 (voV t0 t1 t2 t3 t4 t5 t6 t7 t8 t9 t10 t11), .int .i64 0]) (by simp (maxDischargeDepth := 8) [results, Tryd.results78, go_sem, *]) rfl ?_
  have hb := HB.out
  exact ⟨rfl, by (repeat' (first | (with_reducible exact Below.refl _ _) | (with_reducible refine Below.alloc ?_ ?_ _) | (with_reducible refine Below.setCell ?_ ?_ _) | (with_reducible refine Below.drew ?_) | (with_reducible refine below_drewN ?_ _) | (with_reducible assumption) | (with_reducible refine below_after (by with_reducible assumption) ?_) | go_size))⟩
set_option maxHeartbeats 1600000 in
theorem impl_VolumeOf_any (t0 t1 t2 t3 t4 t5 t6 t7 t8 t9 t10 t11 : Int) (eF eT : Addr) (w : World) (hF : EA w 3 eF) (hT : EA w 2 eT) (nT : eT ≠ eF) :
    Calls Tryd.prog 38 #[.agg #[.int .i64 t0, .int .i64 t1, .int .i64 t2, .int .i64 t3, .int .i64 t4, .int .i64 t5, .int .i64 t6, .int .i64 t7, .int .i64 t8, .int .i64 t9, .int .i64 t10, .int .i64 t11]] w fun e w' => e = .returned (.tuple #[.int .i64 (vtV t0 t1 t2 t3 t4 t5 t6 t7 t8 t9 t10 t11), .int .i64 (bok (isTe t0 t1 t2 t3 t4 t5 t6 t7 t8 t9 t10 t11))]) ∧ Below w.heap.size w w' := by
  have hmf : ∀ (fn : Fn) (first cap : Array Value) (w : World), (Instr.makeFunc fn first cap).run Tryd.prog w = .ok (.func fn first cap) w := fun _ _ _ _ => rfl
  have HEF := Lib.hid hF
  have HET := Lib.hid hT
  have HNT := Lib.hid nT
  clear hF hT nT
  cases hk : isTe t0 t1 t2 t3 t4 t5 t6 t7 t8 t9 t10 t11
  · have HK := Lib.hid hk
    clear hk
    obtain ⟨GT, hG⟩ : ∃ G, w.heap.size = G := ⟨_, rfl⟩
    have HG := Lib.hid hG
    go_enter Tryd.func38, Tryd.ntmps38
    go_upto_region 1 with fail
    obtain ⟨w0, hw0⟩ : ∃ w0, w0 = (w.alloc (.cells #[.int .i64 t0, .int .i64 t1, .int .i64 t2, .int .i64 t3, .int .i64 t4, .int .i64 t5, .int .i64 t6, .int .i64 t7, .int .i64 t8, .int .i64 t9, .int .i64 t10, .int .i64 t11] 54)) := ⟨_, rfl⟩
    rw [← hw0]
    have HT : Hid (Bk12 w0 GT t0 t1 t2 t3 t4 t5 t6 t7 t8 t9 t10 t11) := by
      have h := (bk12_new w t0 t1 t2 t3 t4 t5 t6 t7 t8 t9 t10 t11 54).below (W' := (w.alloc (.cells #[.int .i64 t0, .int .i64 t1, .int .i64 t2, .int .i64 t3, .int .i64 t4, .int .i64 t5, .int .i64 t6, .int .i64 t7, .int .i64 t8, .int .i64 t9, .int .i64 t10, .int .i64 t11] 54))) (by (repeat' (first | (with_reducible exact Below.refl _ _) | (with_reducible refine Below.alloc ?_ ?_ _) | (with_reducible refine Below.setCell ?_ ?_ _) | (with_reducible refine Below.drew ?_) | (with_reducible refine below_drewN ?_ _) | (with_reducible assumption) | (with_reducible refine below_after (by with_reducible assumption) ?_) | go_size)))
      (try simp only [World.size_alloc] at h)
      rw [hG] at h
      rw [hw0]; exact h
    have HB : Hid (Below w.heap.size w w0) := by show Below w.heap.size w w0; rw [hw0]; (repeat' (first | (with_reducible exact Below.refl _ _) | (with_reducible refine Below.alloc ?_ ?_ _) | (with_reducible refine Below.setCell ?_ ?_ _) | (with_reducible refine Below.drew ?_) | (with_reducible refine below_drewN ?_ _) | (with_reducible assumption) | (with_reducible refine below_after (by with_reducible assumption) ?_) | go_size))
    clear hw0
    have le_T : w.heap.size ≤ GT := by omega
    obtain ⟨⟨qT0, qT1, qT2, qT3, qT4, qT5, qT6, qT7, qT8, qT9, qT10, qT11⟩, ⟨fT0, fT1, fT2, fT3, fT4, fT5, fT6, fT7, fT8, fT9, fT10, fT11⟩, zT⟩ := HT.out
    go_wp2_with fail
    clear qT0 fT0 qT1 fT1 qT2 fT2 qT3 fT3 qT4 fT4 qT5 fT5 qT6 fT6 qT7 fT7 qT8 fT8 qT9 fT9 qT10 fT10 qT11 fT11 zT
    go_at_call 52
    refine (door_pan_int 78 _ eT 1 w0 (enters_of Tryd.func78 (by kernel_rfl) rfl) (fun W hW => codeOfError_one eF eT W (HEF.out.below (below_after hW HB.out)) (HET.out.below (below_after hW HB.out)).b HNT.out) (fun W hW => cl_VolumeOf_pan GT t0 t1 t2 t3 t4 t5 t6 t7 t8 t9 t10 t11 eT W (HET.out.below (below_after hW HB.out)) HK.out (HT.out.below hW))).mono ?_
    rintro e w9 ⟨rfl, hb⟩
    have HB := Lib.hid (below_after hb HB.out)
    clear hb
    clear HT
    go_wp2_with fail
    refine bodyPost_ret (v := .tuple #[.int .i64 0, .int .i64 1]) (by simp (maxDischargeDepth := 8) [results, Tryd.results38, go_sem, *]) rfl ?_
    have hb := HB.out
    exact ⟨by simp [vtV, bvl, bok, HK.out], by (repeat' (first | (with_reducible exact Below.refl _ _) | (with_reducible refine Below.alloc ?_ ?_ _) | (with_reducible refine Below.setCell ?_ ?_ _) | (with_reducible refine Below.drew ?_) | (with_reducible refine below_drewN ?_ _) | (with_reducible assumption) | (with_reducible refine below_after (by with_reducible assumption) ?_) | go_size))⟩
  · have HK := Lib.hid hk
    clear hk
    obtain ⟨GT, hG⟩ : ∃ G, w.heap.size = G := ⟨_, rfl⟩
    have HG := Lib.hid hG
    go_enter Tryd.func38, Tryd.ntmps38
    go_upto_region 1 with fail
    obtain ⟨w0, hw0⟩ : ∃ w0, w0 = (w.alloc (.cells #[.int .i64 t0, .int .i64 t1, .int .i64 t2, .int .i64 t3, .int .i64 t4, .int .i64 t5, .int .i64 t6, .int .i64 t7, .int .i64 t8, .int .i64 t9, .int .i64 t10, .int .i64 t11] 54)) := ⟨_, rfl⟩
    rw [← hw0]
    have HT : Hid (Bk12 w0 GT t0 t1 t2 t3 t4 t5 t6 t7 t8 t9 t10 t11) := by
      have h := (bk12_new w t0 t1 t2 t3 t4 t5 t6 t7 t8 t9 t10 t11 54).below (W' := (w.alloc (.cells #[.int .i64 t0, .int .i64 t1, .int .i64 t2, .int .i64 t3, .int .i64 t4, .int .i64 t5, .int .i64 t6, .int .i64 t7, .int .i64 t8, .int .i64 t9, .int .i64 t10, .int .i64 t11] 54))) (by (repeat' (first | (with_reducible exact Below.refl _ _) | (with_reducible refine Below.alloc ?_ ?_ _) | (with_reducible refine Below.setCell ?_ ?_ _) | (with_reducible refine Below.drew ?_) | (with_reducible refine below_drewN ?_ _) | (with_reducible assumption) | (with_reducible refine below_after (by with_reducible assumption) ?_) | go_size)))
      (try simp only [World.size_alloc] at h)
      rw [hG] at h
      rw [hw0]; exact h
    have HB : Hid (Below w.heap.size w w0) := by show Below w.heap.size w w0; rw [hw0]; (repeat' (first | (with_reducible exact Below.refl _ _) | (with_reducible refine Below.alloc ?_ ?_ _) | (with_reducible refine Below.setCell ?_ ?_ _) | (with_reducible refine Below.drew ?_) | (with_reducible refine below_drewN ?_ _) | (with_reducible assumption) | (with_reducible refine below_after (by with_reducible assumption) ?_) | go_size))
    clear hw0
    have le_T : w.heap.size ≤ GT := by omega
    obtain ⟨⟨qT0, qT1, qT2, qT3, qT4, qT5, qT6, qT7, qT8, qT9, qT10, qT11⟩, ⟨fT0, fT1, fT2, fT3, fT4, fT5, fT6, fT7, fT8, fT9, fT10, fT11⟩, zT⟩ := HT.out
    go_wp2_with fail
    clear qT0 fT0 qT1 fT1 qT2 fT2 qT3 fT3 qT4 fT4 qT5 fT5 qT6 fT6 qT7 fT7 qT8 fT8 qT9 fT9 qT10 fT10 qT11 fT11 zT
    go_at_call 52
    refine (door_ret_int 78 _ 0 (fun v _ => v = .int .i64 (voV t0 t1 t2 t3 t4 t5 t6 t7 t8 t9 t10 t11)) w0 (enters_of Tryd.func78 (by kernel_rfl) rfl) (fun _ _ _ h => h) (fun W hW hlt => ?_)).mono ?_
    · refine (cl_VolumeOf_ok GT t0 t1 t2 t3 t4 t5 t6 t7 t8 t9 t10 t11 W HK.out (HT.out.below hW)).mono ?_
      rintro e w2 ⟨rfl, hb⟩
      exact ⟨_, rfl, rfl, hb⟩
    rintro e w9 ⟨v, rfl, rfl, hb⟩
    have HB := Lib.hid (below_after hb HB.out)
    clear hb
    clear HT
    go_wp2_with fail
    refine bodyPost_ret (v := .tuple #[.int .i64 (voV t0 t1 t2 t3 t4 t5 t6 t7 t8 t9 t10 t11), .int .i64 (0)]) (by simp (maxDischargeDepth := 8) [results, Tryd.results38, go_sem, *]) rfl ?_
    have hb := HB.out
    exact ⟨by simp [vtV, bvl, bok, HK.out], by (repeat' (first | (with_reducible exact Below.refl _ _) | (with_reducible refine Below.alloc ?_ ?_ _) | (with_reducible refine Below.setCell ?_ ?_ _) | (with_reducible refine Below.drew ?_) | (with_reducible refine below_drewN ?_ _) | (with_reducible assumption) | (with_reducible refine below_after (by with_reducible assumption) ?_) | go_size))⟩
end Go.Proofs.YtjjblgmokmalaaaDoor
