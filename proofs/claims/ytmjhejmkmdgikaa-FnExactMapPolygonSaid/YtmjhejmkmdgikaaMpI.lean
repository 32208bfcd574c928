/-
  MapPolygon, in the program (own work).
-/
import Derived.Test.YtmjhejmkmdgikaaMpM
import Derived.Test.YtmjhejmkmdgikaaApp
import Derived.Test.YtmjhejmkmdgikaaBk4
import Derived.Test.YtmjhejmkmdgikaaRev
import Derived.StillTailTactics
import Derived.Deep.DeepCutAuto
namespace Go.Proofs.Ytmjhejmkmdgikaa
open Go.ChangeShapes Go.WideShapes Go.ChangeAt Go.RowKit
set_option linter.unusedVariables false
set_option maxRecDepth 100000
set_option linter.unusedSimpArgs false
set_option maxRecDepth 100000

theorem plusTimes_w2 (x0 y0 x1 y1 k : Int) (w : World) (h0 : Bn x0) (h1 : Bn y0) (p1 : -5000000000000000000 ≤ k * x1) (p2 : k * x1 ≤ 5000000000000000000) (q1 : -5000000000000000000 ≤ k * y1) (q2 : k * y1 ≤ 5000000000000000000) :
    Calls Try.prog 105 #[.agg #[.int .i64 x0, .int .i64 y0], .agg #[.int .i64 x1, .int .i64 y1], .int .i64 k] w fun e w' => e = .returned (.agg #[.int .i64 (x0 + k * x1), .int .i64 (y0 + k * y1)]) ∧ Below w.heap.size w w' := by
  obtain ⟨a1, a2⟩ := h0
  obtain ⟨b1, b2⟩ := h1
  have hs20 : w.heap.size < w.heap.size + 1 + 1 := (by omega); have hs30 : w.heap.size < w.heap.size + 1 + 1 + 1 := (by omega); have hs31 : w.heap.size + 1 < w.heap.size + 1 + 1 + 1 := (by omega)
  go_enter Try.func105, Try.ntmps105
  go_wp2
  go_returns
  exact ⟨rfl, by (repeat' (first | (with_reducible exact Below.refl _ _) | (with_reducible refine Below.alloc ?_ ?_ _) | (with_reducible refine Below.setCell ?_ ?_ _) | (with_reducible refine Below.drew ?_) | (with_reducible refine below_drewN ?_ _) | (with_reducible assumption) | (with_reducible refine below_after (by with_reducible assumption) ?_) | go_size))⟩
theorem l01Plus_w2 (x0 y0 x1 y1 k : Int) (w : World) (h0 : Bn x0) (h1 : Bn y0) (p1 : -5000000000000000000 ≤ k * x1) (p2 : k * x1 ≤ 5000000000000000000) (q1 : -5000000000000000000 ≤ k * y1) (q2 : k * y1 ≤ 5000000000000000000) :
    Calls Try.prog 97 #[.agg #[.int .i64 x0, .int .i64 y0], .agg #[.int .i64 x1, .int .i64 y1], .int .i64 k] w fun e w' => e = .returned (.agg #[.int .i64 (x0 + k * x1), .int .i64 (y0 + k * y1)]) ∧ Below w.heap.size w w' := by
  obtain ⟨a1, a2⟩ := h0
  obtain ⟨b1, b2⟩ := h1
  have hs20 : w.heap.size < w.heap.size + 1 + 1 := (by omega); have hs30 : w.heap.size < w.heap.size + 1 + 1 + 1 := (by omega); have hs31 : w.heap.size + 1 < w.heap.size + 1 + 1 + 1 := (by omega)
  go_enter Try.func97, Try.ntmps97
  go_wp2
  go_returns
  exact ⟨rfl, by (repeat' (first | (with_reducible exact Below.refl _ _) | (with_reducible refine Below.alloc ?_ ?_ _) | (with_reducible refine Below.setCell ?_ ?_ _) | (with_reducible refine Below.drew ?_) | (with_reducible refine below_drewN ?_ _) | (with_reducible assumption) | (with_reducible refine below_after (by with_reducible assumption) ?_) | go_size))⟩
theorem rtnM_nil {w w' : World} {k : Int} (hb : Below w.heap.size w w') : RetPC w [] k (.returned (.tuple #[.slice none 0 0, .int .i64 k])) w' := ⟨_, rfl, World.ownsRow_nil _ _ _ _, hb⟩
theorem mp_no1 {m0 m1 m2 m3 b0 b1 : Int} {ps : List (Int × Int)} (h : mpOk m0 m1 m2 m3 b0 b1 ps = false) : mpL m0 m1 m2 m3 b0 b1 ps = [] ∧ mpC m0 m1 m2 m3 b0 b1 ps = 1 := by unfold mpL mpC; rw [h]; exact ⟨rfl, rfl⟩
theorem mp_no5 {m0 m1 m2 m3 b0 b1 : Int} {ps : List (Int × Int)} (h : mpOk m0 m1 m2 m3 b0 b1 ps = true) (h2 : mpU m0 m1 m2 m3 = false) : mpL m0 m1 m2 m3 b0 b1 ps = [] ∧ mpC m0 m1 m2 m3 b0 b1 ps = 5 := by unfold mpL mpC; rw [h, h2]; exact ⟨rfl, rfl⟩
theorem mp_no3 {m0 m1 m2 m3 b0 b1 : Int} {ps : List (Int × Int)} (h : mpOk m0 m1 m2 m3 b0 b1 ps = true) (h2 : mpU m0 m1 m2 m3 = true) (h3 : inC (mpI m0 m1 m2 m3 b0 b1 ps) = false) : mpL m0 m1 m2 m3 b0 b1 ps = [] ∧ mpC m0 m1 m2 m3 b0 b1 ps = 3 := by unfold mpL mpC; rw [h, h2, h3]; exact ⟨rfl, rfl⟩
theorem mp_yes {m0 m1 m2 m3 b0 b1 : Int} {ps : List (Int × Int)} (h : mpOk m0 m1 m2 m3 b0 b1 ps = true) (h2 : mpU m0 m1 m2 m3 = true) (h3 : inC (mpI m0 m1 m2 m3 b0 b1 ps) = true) : mpL m0 m1 m2 m3 b0 b1 ps = rotL (mpQ m0 m1 m2 m3 b0 b1 ps) (ixm (mpQ m0 m1 m2 m3 b0 b1 ps) ps.length) ∧ mpC m0 m1 m2 m3 b0 b1 ps = 0 := by unfold mpL mpC; rw [h, h2, h3]; exact ⟨rfl, rfl⟩
/-- The images that have been laid, and zero points behind them. -/
def fil (is : List (Int × Int)) (k : Nat) : List (Int × Int) := is.take k ++ List.replicate (is.length - k) (0, 0)
theorem fil_len (is : List (Int × Int)) {k : Nat} (h : k ≤ is.length) : (fil is k).length = is.length := by simp [fil]; omega
theorem fil_zero (is : List (Int × Int)) : fil is 0 = List.replicate is.length (0, 0) := by simp [fil]
theorem fil_all (is : List (Int × Int)) : fil is is.length = is := by simp [fil]
theorem fil_set (is : List (Int × Int)) {k : Nat} (h : k < is.length) : (fil is k).set k (is.getD k (0, 0)) = fil is (k + 1) := by
  unfold fil
  rw [List.set_append_right _ _ (by rw [List.length_take]; omega), List.length_take, Nat.min_eq_left (by omega), Nat.sub_self, show is.length - k = (is.length - (k + 1)) + 1 from by omega, List.replicate_succ, List.set_cons_zero, List.take_succ_eq_append_getElem h, List.append_assoc]
  rw [List.getD_eq_getElem?_getD, List.getElem?_eq_getElem h]
  rfl
theorem flat_zero : ∀ n : Nat, flat (List.replicate n ((0 : Int), (0 : Int))) = List.replicate (n * 2) 0
  | 0 => rfl
  | n + 1 => by
    have e : (n + 1) * 2 = n * 2 + 1 + 1 := by omega
    rw [e, List.replicate_succ, List.replicate_succ, List.replicate_succ, ← flat_zero n]
    rfl
set_option maxHeartbeats 4000000 in
theorem impl_Map_no1 (m0 m1 m2 m3 b0 b1 : Int) (a : Option Addr) (n cap : Nat) (ps : List (Int × Int)) (w : World) (h : LV w a n ps) (hk : mpOk m0 m1 m2 m3 b0 b1 ps = false) :
    Calls Try.prog 58 #[.agg #[.int .i64 m0, .int .i64 m1, .int .i64 m2, .int .i64 m3], .slice a n cap, .agg #[.int .i64 b0, .int .i64 b1]] w (RetPC w [] 1) := by
  have CM : Hid (∀ w, Calls Try.prog 101 #[.agg #[.int .i64 m0, .int .i64 m1, .int .i64 m2, .int .i64 m3]] w fun e w' => e = .returned (.bool (isMx m0 m1 m2 m3)) ∧ Below w.heap.size w w') := fun w => impl_IsMatrix_any m0 m1 m2 m3 w
  have CIP : Hid (∀ W, Below w.heap.size w W → Calls Try.prog 102 #[.slice a n cap] W fun e w' => e = .returned (.bool (isP ps)) ∧ Below W.heap.size W w') := fun W hW => impl_IsPolygon_any a n cap ps W (h.below hW)
  have CPT : Hid (∀ w, Calls Try.prog 81 #[.agg #[.int .i64 b0, .int .i64 b1]] w fun e w' => e = .returned (.bool (isPt (b0, b1))) ∧ Below w.heap.size w w') := fun w => isPoint_any b0 b1 w
  unfold mpOk at hk
  cases hm : isMx m0 m1 m2 m3
  · rw [hm] at CM
    clear hk h
    obtain ⟨GM, hG⟩ : ∃ G, w.heap.size = G := ⟨_, rfl⟩
    have HG := Lib.hid hG
    go_enter Try.func58, Try.ntmps58
    go_upto_region 1 with fail
    obtain ⟨w0, hw0⟩ : ∃ w0, w0 = ((w.alloc (.cells #[.int .i64 m0, .int .i64 m1, .int .i64 m2, .int .i64 m3] 61)).alloc (.cells #[.int .i64 b0, .int .i64 b1] 32)) := ⟨_, rfl⟩
    rw [← hw0]
    have HM : Hid (Bk4 w0 GM m0 m1 m2 m3) := by
      have h := (bk4_new w m0 m1 m2 m3 61).below (W' := ((w.alloc (.cells #[.int .i64 m0, .int .i64 m1, .int .i64 m2, .int .i64 m3] 61)).alloc (.cells #[.int .i64 b0, .int .i64 b1] 32))) (by (repeat' (first | (with_reducible exact Below.refl _ _) | (with_reducible refine Below.alloc ?_ ?_ _) | (with_reducible refine Below.setCell ?_ ?_ _) | (with_reducible refine Below.drew ?_) | (with_reducible refine below_drewN ?_ _) | (with_reducible assumption) | (with_reducible refine below_after (by with_reducible assumption) ?_) | go_size)))
      (try simp only [World.size_alloc] at h)
      rw [hG] at h
      rw [hw0]; exact h
    have HE : Hid (Bk2 w0 (GM + 1) b0 b1) := by
      have h := (bk2_new (w.alloc (.cells #[.int .i64 m0, .int .i64 m1, .int .i64 m2, .int .i64 m3] 61)) b0 b1 32).below (W' := ((w.alloc (.cells #[.int .i64 m0, .int .i64 m1, .int .i64 m2, .int .i64 m3] 61)).alloc (.cells #[.int .i64 b0, .int .i64 b1] 32))) (by (repeat' (first | (with_reducible exact Below.refl _ _) | (with_reducible refine Below.alloc ?_ ?_ _) | (with_reducible refine Below.setCell ?_ ?_ _) | (with_reducible refine Below.drew ?_) | (with_reducible refine below_drewN ?_ _) | (with_reducible assumption) | (with_reducible refine below_after (by with_reducible assumption) ?_) | go_size)))
      (try simp only [World.size_alloc] at h)
      rw [hG] at h
      rw [hw0]; exact h
    have HB : Hid (Below w.heap.size w w0) := by show Below w.heap.size w w0; rw [hw0]; (repeat' (first | (with_reducible exact Below.refl _ _) | (with_reducible refine Below.alloc ?_ ?_ _) | (with_reducible refine Below.setCell ?_ ?_ _) | (with_reducible refine Below.drew ?_) | (with_reducible refine below_drewN ?_ _) | (with_reducible assumption) | (with_reducible refine below_after (by with_reducible assumption) ?_) | go_size))
    clear hw0
    obtain ⟨GE, hGE⟩ : ∃ g, GM + 1 = g := ⟨_, rfl⟩
    rw [hGE] at HE ⊢
    have le_M : w.heap.size ≤ GM := by omega
    have le_E : w.heap.size ≤ GE := by omega
    have ne_E_M : GE ≠ GM := by omega
    have ne_M_E : GM ≠ GE := by omega
    clear hGE
    obtain ⟨⟨qM0, qM1, qM2, qM3⟩, ⟨fM0, fM1, fM2, fM3⟩, zM⟩ := HM.out
    obtain ⟨⟨qE0, qE1⟩, ⟨fE0, fE1⟩, zE⟩ := HE.out
    go_wp2_with fail
    go_at_call 101
    refine (CM.out _).mono ?_
    rintro e w1 ⟨rfl, hb⟩
    clear qM0 fM0 qM1 fM1 qM2 fM2 qM3 fM3 zM qE0 fE0 qE1 fE1 zE
    have HM := Lib.hid (HM.out.below hb)
    have HE := Lib.hid (HE.out.below hb)
    have HB := Lib.hid (below_after hb HB.out)
    clear hb
    obtain ⟨⟨qM0, qM1, qM2, qM3⟩, ⟨fM0, fM1, fM2, fM3⟩, zM⟩ := HM.out
    obtain ⟨⟨qE0, qE1⟩, ⟨fE0, fE1⟩, zE⟩ := HE.out
    go_wp2_with fail
    refine bodyPost_ret (v := .tuple #[.slice none 0 0, .int .i64 1]) (by simp (maxDischargeDepth := 8) [results, Try.results58, go_sem, *]) rfl ?_
    have hb := HB.out
    exact rtnM_nil hb
  · rw [hm] at CM hk
    cases hp : isP ps
    · rw [hp] at CIP
      clear hk h hm
      obtain ⟨GM, hG⟩ : ∃ G, w.heap.size = G := ⟨_, rfl⟩
      have HG := Lib.hid hG
      go_enter Try.func58, Try.ntmps58
      go_upto_region 1 with fail
      obtain ⟨w0, hw0⟩ : ∃ w0, w0 = ((w.alloc (.cells #[.int .i64 m0, .int .i64 m1, .int .i64 m2, .int .i64 m3] 61)).alloc (.cells #[.int .i64 b0, .int .i64 b1] 32)) := ⟨_, rfl⟩
      rw [← hw0]
      have HM : Hid (Bk4 w0 GM m0 m1 m2 m3) := by
        have h := (bk4_new w m0 m1 m2 m3 61).below (W' := ((w.alloc (.cells #[.int .i64 m0, .int .i64 m1, .int .i64 m2, .int .i64 m3] 61)).alloc (.cells #[.int .i64 b0, .int .i64 b1] 32))) (by (repeat' (first | (with_reducible exact Below.refl _ _) | (with_reducible refine Below.alloc ?_ ?_ _) | (with_reducible refine Below.setCell ?_ ?_ _) | (with_reducible refine Below.drew ?_) | (with_reducible refine below_drewN ?_ _) | (with_reducible assumption) | (with_reducible refine below_after (by with_reducible assumption) ?_) | go_size)))
        (try simp only [World.size_alloc] at h)
        rw [hG] at h
        rw [hw0]; exact h
      have HE : Hid (Bk2 w0 (GM + 1) b0 b1) := by
        have h := (bk2_new (w.alloc (.cells #[.int .i64 m0, .int .i64 m1, .int .i64 m2, .int .i64 m3] 61)) b0 b1 32).below (W' := ((w.alloc (.cells #[.int .i64 m0, .int .i64 m1, .int .i64 m2, .int .i64 m3] 61)).alloc (.cells #[.int .i64 b0, .int .i64 b1] 32))) (by (repeat' (first | (with_reducible exact Below.refl _ _) | (with_reducible refine Below.alloc ?_ ?_ _) | (with_reducible refine Below.setCell ?_ ?_ _) | (with_reducible refine Below.drew ?_) | (with_reducible refine below_drewN ?_ _) | (with_reducible assumption) | (with_reducible refine below_after (by with_reducible assumption) ?_) | go_size)))
        (try simp only [World.size_alloc] at h)
        rw [hG] at h
        rw [hw0]; exact h
      have HB : Hid (Below w.heap.size w w0) := by show Below w.heap.size w w0; rw [hw0]; (repeat' (first | (with_reducible exact Below.refl _ _) | (with_reducible refine Below.alloc ?_ ?_ _) | (with_reducible refine Below.setCell ?_ ?_ _) | (with_reducible refine Below.drew ?_) | (with_reducible refine below_drewN ?_ _) | (with_reducible assumption) | (with_reducible refine below_after (by with_reducible assumption) ?_) | go_size))
      clear hw0
      obtain ⟨GE, hGE⟩ : ∃ g, GM + 1 = g := ⟨_, rfl⟩
      rw [hGE] at HE ⊢
      have le_M : w.heap.size ≤ GM := by omega
      have le_E : w.heap.size ≤ GE := by omega
      have ne_E_M : GE ≠ GM := by omega
      have ne_M_E : GM ≠ GE := by omega
      clear hGE
      obtain ⟨⟨qM0, qM1, qM2, qM3⟩, ⟨fM0, fM1, fM2, fM3⟩, zM⟩ := HM.out
      obtain ⟨⟨qE0, qE1⟩, ⟨fE0, fE1⟩, zE⟩ := HE.out
      go_wp2_with fail
      go_at_call 101
      refine (CM.out _).mono ?_
      rintro e w1 ⟨rfl, hb⟩
      clear qM0 fM0 qM1 fM1 qM2 fM2 qM3 fM3 zM qE0 fE0 qE1 fE1 zE
      have HM := Lib.hid (HM.out.below hb)
      have HE := Lib.hid (HE.out.below hb)
      have HB := Lib.hid (below_after hb HB.out)
      clear hb
      obtain ⟨⟨qM0, qM1, qM2, qM3⟩, ⟨fM0, fM1, fM2, fM3⟩, zM⟩ := HM.out
      obtain ⟨⟨qE0, qE1⟩, ⟨fE0, fE1⟩, zE⟩ := HE.out
      go_wp2_with fail
      go_at_call 102
      refine (CIP.out _ HB.out).mono ?_
      rintro e w2 ⟨rfl, hb⟩
      clear qM0 fM0 qM1 fM1 qM2 fM2 qM3 fM3 zM qE0 fE0 qE1 fE1 zE
      have HM := Lib.hid (HM.out.below hb)
      have HE := Lib.hid (HE.out.below hb)
      have HB := Lib.hid (below_after hb HB.out)
      clear hb
      obtain ⟨⟨qM0, qM1, qM2, qM3⟩, ⟨fM0, fM1, fM2, fM3⟩, zM⟩ := HM.out
      obtain ⟨⟨qE0, qE1⟩, ⟨fE0, fE1⟩, zE⟩ := HE.out
      go_wp2_with fail
      refine bodyPost_ret (v := .tuple #[.slice none 0 0, .int .i64 1]) (by simp (maxDischargeDepth := 8) [results, Try.results58, go_sem, *]) rfl ?_
      have hb := HB.out
      exact rtnM_nil hb
    · rw [hp] at CIP hk
      have he : isPt (b0, b1) = false := by simpa using hk
      rw [he] at CPT
      clear hk h hm hp he
      obtain ⟨GM, hG⟩ : ∃ G, w.heap.size = G := ⟨_, rfl⟩
      have HG := Lib.hid hG
      go_enter Try.func58, Try.ntmps58
      go_upto_region 1 with fail
      obtain ⟨w0, hw0⟩ : ∃ w0, w0 = ((w.alloc (.cells #[.int .i64 m0, .int .i64 m1, .int .i64 m2, .int .i64 m3] 61)).alloc (.cells #[.int .i64 b0, .int .i64 b1] 32)) := ⟨_, rfl⟩
      rw [← hw0]
      have HM : Hid (Bk4 w0 GM m0 m1 m2 m3) := by
        have h := (bk4_new w m0 m1 m2 m3 61).below (W' := ((w.alloc (.cells #[.int .i64 m0, .int .i64 m1, .int .i64 m2, .int .i64 m3] 61)).alloc (.cells #[.int .i64 b0, .int .i64 b1] 32))) (by (repeat' (first | (with_reducible exact Below.refl _ _) | (with_reducible refine Below.alloc ?_ ?_ _) | (with_reducible refine Below.setCell ?_ ?_ _) | (with_reducible refine Below.drew ?_) | (with_reducible refine below_drewN ?_ _) | (with_reducible assumption) | (with_reducible refine below_after (by with_reducible assumption) ?_) | go_size)))
        (try simp only [World.size_alloc] at h)
        rw [hG] at h
        rw [hw0]; exact h
      have HE : Hid (Bk2 w0 (GM + 1) b0 b1) := by
        have h := (bk2_new (w.alloc (.cells #[.int .i64 m0, .int .i64 m1, .int .i64 m2, .int .i64 m3] 61)) b0 b1 32).below (W' := ((w.alloc (.cells #[.int .i64 m0, .int .i64 m1, .int .i64 m2, .int .i64 m3] 61)).alloc (.cells #[.int .i64 b0, .int .i64 b1] 32))) (by (repeat' (first | (with_reducible exact Below.refl _ _) | (with_reducible refine Below.alloc ?_ ?_ _) | (with_reducible refine Below.setCell ?_ ?_ _) | (with_reducible refine Below.drew ?_) | (with_reducible refine below_drewN ?_ _) | (with_reducible assumption) | (with_reducible refine below_after (by with_reducible assumption) ?_) | go_size)))
        (try simp only [World.size_alloc] at h)
        rw [hG] at h
        rw [hw0]; exact h
      have HB : Hid (Below w.heap.size w w0) := by show Below w.heap.size w w0; rw [hw0]; (repeat' (first | (with_reducible exact Below.refl _ _) | (with_reducible refine Below.alloc ?_ ?_ _) | (with_reducible refine Below.setCell ?_ ?_ _) | (with_reducible refine Below.drew ?_) | (with_reducible refine below_drewN ?_ _) | (with_reducible assumption) | (with_reducible refine below_after (by with_reducible assumption) ?_) | go_size))
      clear hw0
      obtain ⟨GE, hGE⟩ : ∃ g, GM + 1 = g := ⟨_, rfl⟩
      rw [hGE] at HE ⊢
      have le_M : w.heap.size ≤ GM := by omega
      have le_E : w.heap.size ≤ GE := by omega
      have ne_E_M : GE ≠ GM := by omega
      have ne_M_E : GM ≠ GE := by omega
      clear hGE
      obtain ⟨⟨qM0, qM1, qM2, qM3⟩, ⟨fM0, fM1, fM2, fM3⟩, zM⟩ := HM.out
      obtain ⟨⟨qE0, qE1⟩, ⟨fE0, fE1⟩, zE⟩ := HE.out
      go_wp2_with fail
      go_at_call 101
      refine (CM.out _).mono ?_
      rintro e w1 ⟨rfl, hb⟩
      clear qM0 fM0 qM1 fM1 qM2 fM2 qM3 fM3 zM qE0 fE0 qE1 fE1 zE
      have HM := Lib.hid (HM.out.below hb)
      have HE := Lib.hid (HE.out.below hb)
      have HB := Lib.hid (below_after hb HB.out)
      clear hb
      obtain ⟨⟨qM0, qM1, qM2, qM3⟩, ⟨fM0, fM1, fM2, fM3⟩, zM⟩ := HM.out
      obtain ⟨⟨qE0, qE1⟩, ⟨fE0, fE1⟩, zE⟩ := HE.out
      go_wp2_with fail
      go_at_call 102
      refine (CIP.out _ HB.out).mono ?_
      rintro e w2 ⟨rfl, hb⟩
      clear qM0 fM0 qM1 fM1 qM2 fM2 qM3 fM3 zM qE0 fE0 qE1 fE1 zE
      have HM := Lib.hid (HM.out.below hb)
      have HE := Lib.hid (HE.out.below hb)
      have HB := Lib.hid (below_after hb HB.out)
      clear hb
      obtain ⟨⟨qM0, qM1, qM2, qM3⟩, ⟨fM0, fM1, fM2, fM3⟩, zM⟩ := HM.out
      obtain ⟨⟨qE0, qE1⟩, ⟨fE0, fE1⟩, zE⟩ := HE.out
      go_wp2_with fail
      go_at_call 81
      refine (CPT.out _).mono ?_
      rintro e w3 ⟨rfl, hb⟩
      clear qM0 fM0 qM1 fM1 qM2 fM2 qM3 fM3 zM qE0 fE0 qE1 fE1 zE
      have HM := Lib.hid (HM.out.below hb)
      have HE := Lib.hid (HE.out.below hb)
      have HB := Lib.hid (below_after hb HB.out)
      clear hb
      obtain ⟨⟨qM0, qM1, qM2, qM3⟩, ⟨fM0, fM1, fM2, fM3⟩, zM⟩ := HM.out
      obtain ⟨⟨qE0, qE1⟩, ⟨fE0, fE1⟩, zE⟩ := HE.out
      go_wp2_with fail
      refine bodyPost_ret (v := .tuple #[.slice none 0 0, .int .i64 1]) (by simp (maxDischargeDepth := 8) [results, Try.results58, go_sem, *]) rfl ?_
      have hb := HB.out
      exact rtnM_nil hb
set_option maxHeartbeats 4000000 in
theorem impl_Map_no5 (m0 m1 m2 m3 b0 b1 : Int) (a : Option Addr) (n cap : Nat) (ps : List (Int × Int)) (w : World) (h : LV w a n ps) (hk : mpOk m0 m1 m2 m3 b0 b1 ps = true) (hu : mpU m0 m1 m2 m3 = false) :
    Calls Try.prog 58 #[.agg #[.int .i64 m0, .int .i64 m1, .int .i64 m2, .int .i64 m3], .slice a n cap, .agg #[.int .i64 b0, .int .i64 b1]] w (RetPC w [] 5) := by
  have CM : Hid (∀ w, Calls Try.prog 101 #[.agg #[.int .i64 m0, .int .i64 m1, .int .i64 m2, .int .i64 m3]] w fun e w' => e = .returned (.bool (isMx m0 m1 m2 m3)) ∧ Below w.heap.size w w') := fun w => impl_IsMatrix_any m0 m1 m2 m3 w
  have CIP : Hid (∀ W, Below w.heap.size w W → Calls Try.prog 102 #[.slice a n cap] W fun e w' => e = .returned (.bool (isP ps)) ∧ Below W.heap.size W w') := fun W hW => impl_IsPolygon_any a n cap ps W (h.below hW)
  have CPT : Hid (∀ w, Calls Try.prog 81 #[.agg #[.int .i64 b0, .int .i64 b1]] w fun e w' => e = .returned (.bool (isPt (b0, b1))) ∧ Below w.heap.size w w') := fun w => isPoint_any b0 b1 w
  have hk0 := hk
  unfold mpOk at hk0
  simp only [Bool.and_eq_true] at hk0
  obtain ⟨hm, hp, he⟩ := hk0
  rw [hm] at CM
  rw [hp] at CIP
  rw [he] at CPT
  obtain ⟨g1, g2⟩ := isMx_pts hm
  have bm0 := isPt_bn1 g1
  have bm1 := isPt_bn2 g1
  have bm2 := isPt_bn1 g2
  have bm3 := isPt_bn2 g2
  have be0 := isPt_bn1 he
  have be1 := isPt_bn2 he
  have CD : Hid (∀ w, Calls Try.prog 103 #[.agg #[.int .i64 m0, .int .i64 m1], .agg #[.int .i64 m2, .int .i64 m3]] w fun e w' => e = .returned (.int .i64 (detP (m0, m1) (m2, m3))) ∧ Below w.heap.size w w') := fun w => determinant_any _ _ _ _ w bm0 bm1 bm2 bm3
  have hdd : detP (m0, m1) (m2, m3) = m0 * m3 - m1 * m2 := rfl
  have hbd : -4000000000000 ≤ detP (m0, m1) (m2, m3) ∧ detP (m0, m1) (m2, m3) ≤ 4000000000000 := by
    obtain ⟨⟨c0, c1⟩, c2, c3⟩ := And.intro (crd_iff.1 (by simp only [isPt, Bool.and_eq_true] at g1; exact g1.1) : -1000000 ≤ m0 ∧ m0 ≤ 1000000) (crd_iff.1 (by simp only [isPt, Bool.and_eq_true] at g1; exact g1.2) : -1000000 ≤ m1 ∧ m1 ≤ 1000000)
    obtain ⟨⟨d0, d1⟩, d2, d3⟩ := And.intro (crd_iff.1 (by simp only [isPt, Bool.and_eq_true] at g2; exact g2.1) : -1000000 ≤ m2 ∧ m2 ≤ 1000000) (crd_iff.1 (by simp only [isPt, Bool.and_eq_true] at g2; exact g2.2) : -1000000 ≤ m3 ∧ m3 ≤ 1000000)
    have q1 := mul_bd c0 c1 d2 d3
    have q2 := mul_bd c2 c3 d0 d1
    rw [hdd]
    omega
  have CA : Hid (∀ w, Calls Try.prog 104 #[.int .i64 (detP (m0, m1) (m2, m3))] w fun e w' => e = .returned (.int .i64 (absI (detP (m0, m1) (m2, m3)))) ∧ Below w.heap.size w w') := fun w => (absolute_any _ w (by unfold Tn; omega)).mono (by rintro e w' ⟨rfl, rfl⟩; exact ⟨rfl, Below.refl _ _⟩)
  have hne : (absI (detP (m0, m1) (m2, m3)) == 1) = false := by
    unfold mpU at hu
    simp at hu
    rw [hdd]
    unfold absI
    simp
    omega
  obtain ⟨D, hD⟩ : ∃ D, detP (m0, m1) (m2, m3) = D := ⟨_, rfl⟩
  obtain ⟨A, hA⟩ : ∃ D, absI (detP (m0, m1) (m2, m3)) = D := ⟨_, rfl⟩
  rw [hA] at CA hne
  rw [hD] at CD CA
  clear hA hD hdd hbd hk hu h hm hp he bm0 bm1 bm2 bm3 be0 be1 g1 g2
  obtain ⟨GM, hG⟩ : ∃ G, w.heap.size = G := ⟨_, rfl⟩
  have HG := Lib.hid hG
  go_enter Try.func58, Try.ntmps58
  go_upto_region 1 with fail
  obtain ⟨w0, hw0⟩ : ∃ w0, w0 = ((w.alloc (.cells #[.int .i64 m0, .int .i64 m1, .int .i64 m2, .int .i64 m3] 61)).alloc (.cells #[.int .i64 b0, .int .i64 b1] 32)) := ⟨_, rfl⟩
  rw [← hw0]
  have HM : Hid (Bk4 w0 GM m0 m1 m2 m3) := by
    have h := (bk4_new w m0 m1 m2 m3 61).below (W' := ((w.alloc (.cells #[.int .i64 m0, .int .i64 m1, .int .i64 m2, .int .i64 m3] 61)).alloc (.cells #[.int .i64 b0, .int .i64 b1] 32))) (by (repeat' (first | (with_reducible exact Below.refl _ _) | (with_reducible refine Below.alloc ?_ ?_ _) | (with_reducible refine Below.setCell ?_ ?_ _) | (with_reducible refine Below.drew ?_) | (with_reducible refine below_drewN ?_ _) | (with_reducible assumption) | (with_reducible refine below_after (by with_reducible assumption) ?_) | go_size)))
    (try simp only [World.size_alloc] at h)
    rw [hG] at h
    rw [hw0]; exact h
  have HE : Hid (Bk2 w0 (GM + 1) b0 b1) := by
    have h := (bk2_new (w.alloc (.cells #[.int .i64 m0, .int .i64 m1, .int .i64 m2, .int .i64 m3] 61)) b0 b1 32).below (W' := ((w.alloc (.cells #[.int .i64 m0, .int .i64 m1, .int .i64 m2, .int .i64 m3] 61)).alloc (.cells #[.int .i64 b0, .int .i64 b1] 32))) (by (repeat' (first | (with_reducible exact Below.refl _ _) | (with_reducible refine Below.alloc ?_ ?_ _) | (with_reducible refine Below.setCell ?_ ?_ _) | (with_reducible refine Below.drew ?_) | (with_reducible refine below_drewN ?_ _) | (with_reducible assumption) | (with_reducible refine below_after (by with_reducible assumption) ?_) | go_size)))
    (try simp only [World.size_alloc] at h)
    rw [hG] at h
    rw [hw0]; exact h
  have HB : Hid (Below w.heap.size w w0) := by show Below w.heap.size w w0; rw [hw0]; (repeat' (first | (with_reducible exact Below.refl _ _) | (with_reducible refine Below.alloc ?_ ?_ _) | (with_reducible refine Below.setCell ?_ ?_ _) | (with_reducible refine Below.drew ?_) | (with_reducible refine below_drewN ?_ _) | (with_reducible assumption) | (with_reducible refine below_after (by with_reducible assumption) ?_) | go_size))
  clear hw0
  obtain ⟨GE, hGE⟩ : ∃ g, GM + 1 = g := ⟨_, rfl⟩
  rw [hGE] at HE ⊢
  have le_M : w.heap.size ≤ GM := by omega
  have le_E : w.heap.size ≤ GE := by omega
  have ne_E_M : GE ≠ GM := by omega
  have ne_M_E : GM ≠ GE := by omega
  clear hGE
  obtain ⟨⟨qM0, qM1, qM2, qM3⟩, ⟨fM0, fM1, fM2, fM3⟩, zM⟩ := HM.out
  obtain ⟨⟨qE0, qE1⟩, ⟨fE0, fE1⟩, zE⟩ := HE.out
  go_wp2_with fail
  go_at_call 101
  refine (CM.out _).mono ?_
  rintro e w1 ⟨rfl, hb⟩
  clear qM0 fM0 qM1 fM1 qM2 fM2 qM3 fM3 zM qE0 fE0 qE1 fE1 zE
  have HM := Lib.hid (HM.out.below hb)
  have HE := Lib.hid (HE.out.below hb)
  have HB := Lib.hid (below_after hb HB.out)
  clear hb
  obtain ⟨⟨qM0, qM1, qM2, qM3⟩, ⟨fM0, fM1, fM2, fM3⟩, zM⟩ := HM.out
  obtain ⟨⟨qE0, qE1⟩, ⟨fE0, fE1⟩, zE⟩ := HE.out
  go_wp2_with fail
  go_at_call 102
  refine (CIP.out _ HB.out).mono ?_
  rintro e w2 ⟨rfl, hb⟩
  clear qM0 fM0 qM1 fM1 qM2 fM2 qM3 fM3 zM qE0 fE0 qE1 fE1 zE
  have HM := Lib.hid (HM.out.below hb)
  have HE := Lib.hid (HE.out.below hb)
  have HB := Lib.hid (below_after hb HB.out)
  clear hb
  obtain ⟨⟨qM0, qM1, qM2, qM3⟩, ⟨fM0, fM1, fM2, fM3⟩, zM⟩ := HM.out
  obtain ⟨⟨qE0, qE1⟩, ⟨fE0, fE1⟩, zE⟩ := HE.out
  go_wp2_with fail
  go_at_call 81
  refine (CPT.out _).mono ?_
  rintro e w3 ⟨rfl, hb⟩
  clear qM0 fM0 qM1 fM1 qM2 fM2 qM3 fM3 zM qE0 fE0 qE1 fE1 zE
  have HM := Lib.hid (HM.out.below hb)
  have HE := Lib.hid (HE.out.below hb)
  have HB := Lib.hid (below_after hb HB.out)
  clear hb
  obtain ⟨⟨qM0, qM1, qM2, qM3⟩, ⟨fM0, fM1, fM2, fM3⟩, zM⟩ := HM.out
  obtain ⟨⟨qE0, qE1⟩, ⟨fE0, fE1⟩, zE⟩ := HE.out
  go_wp2_with fail
  go_at_call 103
  refine (CD.out _).mono ?_
  rintro e w4 ⟨rfl, hb⟩
  clear qM0 fM0 qM1 fM1 qM2 fM2 qM3 fM3 zM qE0 fE0 qE1 fE1 zE
  have HM := Lib.hid (HM.out.below hb)
  have HE := Lib.hid (HE.out.below hb)
  have HB := Lib.hid (below_after hb HB.out)
  clear hb
  obtain ⟨⟨qM0, qM1, qM2, qM3⟩, ⟨fM0, fM1, fM2, fM3⟩, zM⟩ := HM.out
  obtain ⟨⟨qE0, qE1⟩, ⟨fE0, fE1⟩, zE⟩ := HE.out
  go_wp2_with fail
  go_at_call 104
  refine (CA.out _).mono ?_
  rintro e w5 ⟨rfl, hb⟩
  clear qM0 fM0 qM1 fM1 qM2 fM2 qM3 fM3 zM qE0 fE0 qE1 fE1 zE
  have HM := Lib.hid (HM.out.below hb)
  have HE := Lib.hid (HE.out.below hb)
  have HB := Lib.hid (below_after hb HB.out)
  clear hb
  obtain ⟨⟨qM0, qM1, qM2, qM3⟩, ⟨fM0, fM1, fM2, fM3⟩, zM⟩ := HM.out
  obtain ⟨⟨qE0, qE1⟩, ⟨fE0, fE1⟩, zE⟩ := HE.out
  go_wp2_with fail
  refine bodyPost_ret (v := .tuple #[.slice none 0 0, .int .i64 5]) (by simp (maxDischargeDepth := 8) [results, Try.results58, go_sem, *]) rfl ?_
  have hb := HB.out
  exact rtnM_nil hb
theorem mpT_at (m0 m1 m2 m3 b0 b1 x y : Int) : (b0 + 1 * (img m0 m1 m2 m3 x y).1, b1 + 1 * (img m0 m1 m2 m3 x y).2) = mpT m0 m1 m2 m3 b0 b1 (x, y) := by
  unfold img mpT
  dsimp only
  rw [Prod.mk.injEq]
  constructor <;> omega
set_option maxHeartbeats 16000000 in
theorem impl_Map_yes (m0 m1 m2 m3 b0 b1 : Int) (a : Option Addr) (n cap : Nat) (ps : List (Int × Int)) (w : World) (h : LV w a n ps) (hk : mpOk m0 m1 m2 m3 b0 b1 ps = true) (hu : mpU m0 m1 m2 m3 = true) :
    Calls Try.prog 58 #[.agg #[.int .i64 m0, .int .i64 m1, .int .i64 m2, .int .i64 m3], .slice a n cap, .agg #[.int .i64 b0, .int .i64 b1]] w (RetPC w (mpL m0 m1 m2 m3 b0 b1 ps) (mpC m0 m1 m2 m3 b0 b1 ps)) := by
  have CM : Hid (∀ w, Calls Try.prog 101 #[.agg #[.int .i64 m0, .int .i64 m1, .int .i64 m2, .int .i64 m3]] w fun e w' => e = .returned (.bool (isMx m0 m1 m2 m3)) ∧ Below w.heap.size w w') := fun w => impl_IsMatrix_any m0 m1 m2 m3 w
  have CIP : Hid (∀ W, Below w.heap.size w W → Calls Try.prog 102 #[.slice a n cap] W fun e w' => e = .returned (.bool (isP ps)) ∧ Below W.heap.size W w') := fun W hW => impl_IsPolygon_any a n cap ps W (h.below hW)
  have CPT : Hid (∀ w, Calls Try.prog 81 #[.agg #[.int .i64 b0, .int .i64 b1]] w fun e w' => e = .returned (.bool (isPt (b0, b1))) ∧ Below w.heap.size w w') := fun w => isPoint_any b0 b1 w
  have hk0 := hk
  unfold mpOk at hk0
  simp only [Bool.and_eq_true] at hk0
  obtain ⟨hm, hp, he⟩ := hk0
  rw [hm] at CM
  rw [hp] at CIP
  rw [he] at CPT
  obtain ⟨g1, g2⟩ := isMx_pts hm
  have bm0 := isPt_bn1 g1
  have bm1 := isPt_bn2 g1
  have bm2 := isPt_bn1 g2
  have bm3 := isPt_bn2 g2
  have be0 := isPt_bn1 he
  have be1 := isPt_bn2 he
  have CD : Hid (∀ w, Calls Try.prog 103 #[.agg #[.int .i64 m0, .int .i64 m1], .agg #[.int .i64 m2, .int .i64 m3]] w fun e w' => e = .returned (.int .i64 (detP (m0, m1) (m2, m3))) ∧ Below w.heap.size w w') := fun w => determinant_any _ _ _ _ w bm0 bm1 bm2 bm3
  have hdd : detP (m0, m1) (m2, m3) = m0 * m3 - m1 * m2 := rfl
  have hbd : -4000000000000 ≤ detP (m0, m1) (m2, m3) ∧ detP (m0, m1) (m2, m3) ≤ 4000000000000 := by
    obtain ⟨⟨c0, c1⟩, c2, c3⟩ := And.intro (crd_iff.1 (by simp only [isPt, Bool.and_eq_true] at g1; exact g1.1) : -1000000 ≤ m0 ∧ m0 ≤ 1000000) (crd_iff.1 (by simp only [isPt, Bool.and_eq_true] at g1; exact g1.2) : -1000000 ≤ m1 ∧ m1 ≤ 1000000)
    obtain ⟨⟨d0, d1⟩, d2, d3⟩ := And.intro (crd_iff.1 (by simp only [isPt, Bool.and_eq_true] at g2; exact g2.1) : -1000000 ≤ m2 ∧ m2 ≤ 1000000) (crd_iff.1 (by simp only [isPt, Bool.and_eq_true] at g2; exact g2.2) : -1000000 ≤ m3 ∧ m3 ≤ 1000000)
    have q1 := mul_bd c0 c1 d2 d3
    have q2 := mul_bd c2 c3 d0 d1
    rw [hdd]
    omega
  have CA : Hid (∀ w, Calls Try.prog 104 #[.int .i64 (detP (m0, m1) (m2, m3))] w fun e w' => e = .returned (.int .i64 (absI (detP (m0, m1) (m2, m3)))) ∧ Below w.heap.size w w') := fun w => (absolute_any _ w (by unfold Tn; omega)).mono (by rintro e w' ⟨rfl, rfl⟩; exact ⟨rfl, Below.refl _ _⟩)
  obtain ⟨h3, h12, hin, hcv⟩ := isP_iff.1 hp
  have HC : Hid (Cvx (mpQ m0 m1 m2 m3 b0 b1 ps).length (pl (mpQ m0 m1 m2 m3 b0 b1 ps))) := mpQ_cvx hu hp
  have HQL := Lib.hid (mpQ_len m0 m1 m2 m3 b0 b1 ps)
  have HQM := Lib.hid (mpQ_mem m0 m1 m2 m3 b0 b1 ps)
  have hone : (absI (detP (m0, m1) (m2, m3)) == 1) = true := by
    unfold mpU at hu
    simp at hu
    rw [hdd]
    unfold absI
    simp
    omega
  have HDQ : Hid (mpQ m0 m1 m2 m3 b0 b1 ps = if detP (m0, m1) (m2, m3) < 0 then (mpI m0 m1 m2 m3 b0 b1 ps).reverse else mpI m0 m1 m2 m3 b0 b1 ps) := rfl
  have HIL := Lib.hid (mpI_len (a := m0) (b := m1) (c := m2) (d := m3) (e := b0) (f := b1) ps)
  have HIA := Lib.hid (fun k (hk : k < ps.length) => mpI_at (a := m0) (b := m1) (c := m2) (d := m3) (e := b0) (f := b1) ps hk)
  have HIN := Lib.hid (fun k (hk : k < ps.length) => show Sml (ps.getD k (0, 0)).1 ∧ Sml (ps.getD k (0, 0)).2 by have := inC_pl hin (by omega) k; rwa [pl_lt hk] at this)
  have HNO := Lib.hid (fun hi => mp_no3 hk hu hi)
  have HYE := Lib.hid (fun hi => mp_yes hk hu hi)
  obtain ⟨hN, hmx, hcl⟩ := h
  obtain ⟨g, rfl, hg, hc⟩ := hcl (by omega)
  have HCP : Hid (∀ W, Below w.heap.size w W → ∀ k, k < n → W.cell? ⟨g, k * 2, none⟩ = some (.int .i64 (ps.getD k (0, 0)).1) ∧ W.cell? ⟨g, k * 2 + 1, none⟩ = some (.int .i64 (ps.getD k (0, 0)).2)) := fun W hW k hkk => by
    have := ptCells_kept hc (hW.block g hg) k (by omega)
    rwa [Nat.zero_add] at this
  rw [hN] at h3 h12 HIA HIN HIL HYE HQL
  obtain ⟨Q, hQ⟩ : ∃ Q, mpQ m0 m1 m2 m3 b0 b1 ps = Q := ⟨_, rfl⟩
  obtain ⟨is, hI⟩ : ∃ Q, mpI m0 m1 m2 m3 b0 b1 ps = Q := ⟨_, rfl⟩
  rw [hQ] at HC HQL HQM HDQ HYE
  rw [hI] at HQM HDQ HIL HIA HNO HYE
  obtain ⟨D, hD⟩ : ∃ D, detP (m0, m1) (m2, m3) = D := ⟨_, rfl⟩
  obtain ⟨A, hA⟩ : ∃ D, absI (detP (m0, m1) (m2, m3)) = D := ⟨_, rfl⟩
  rw [hA] at CA hone
  rw [hD] at CD CA HDQ
  obtain ⟨i0, hi, hz0, hz1, hz2⟩ := info_parts info_pt
  have BM := Lib.hid (And.intro (And.intro bm0 bm1) (And.intro bm2 bm3))
  have BE := Lib.hid (And.intro be0 be1)
  clear hA hD hdd hbd hk hu hm hp he bm0 bm1 bm2 bm3 be0 be1 g1 g2 hin hcv hc hcl hQ hI
  obtain ⟨GM, hG⟩ : ∃ G, w.heap.size = G := ⟨_, rfl⟩
  have HG := Lib.hid hG
  go_enter Try.func58, Try.ntmps58
  go_upto_region 1 with fail
  obtain ⟨w0, hw0⟩ : ∃ w0, w0 = ((w.alloc (.cells #[.int .i64 m0, .int .i64 m1, .int .i64 m2, .int .i64 m3] 61)).alloc (.cells #[.int .i64 b0, .int .i64 b1] 32)) := ⟨_, rfl⟩
  rw [← hw0]
  have HM : Hid (Bk4 w0 GM m0 m1 m2 m3) := by
    have h := (bk4_new w m0 m1 m2 m3 61).below (W' := ((w.alloc (.cells #[.int .i64 m0, .int .i64 m1, .int .i64 m2, .int .i64 m3] 61)).alloc (.cells #[.int .i64 b0, .int .i64 b1] 32))) (by (repeat' (first | (with_reducible exact Below.refl _ _) | (with_reducible refine Below.alloc ?_ ?_ _) | (with_reducible refine Below.setCell ?_ ?_ _) | (with_reducible refine Below.drew ?_) | (with_reducible refine below_drewN ?_ _) | (with_reducible assumption) | (with_reducible refine below_after (by with_reducible assumption) ?_) | go_size)))
    (try simp only [World.size_alloc] at h)
    rw [hG] at h
    rw [hw0]; exact h
  have HE : Hid (Bk2 w0 (GM + 1) b0 b1) := by
    have h := (bk2_new (w.alloc (.cells #[.int .i64 m0, .int .i64 m1, .int .i64 m2, .int .i64 m3] 61)) b0 b1 32).below (W' := ((w.alloc (.cells #[.int .i64 m0, .int .i64 m1, .int .i64 m2, .int .i64 m3] 61)).alloc (.cells #[.int .i64 b0, .int .i64 b1] 32))) (by (repeat' (first | (with_reducible exact Below.refl _ _) | (with_reducible refine Below.alloc ?_ ?_ _) | (with_reducible refine Below.setCell ?_ ?_ _) | (with_reducible refine Below.drew ?_) | (with_reducible refine below_drewN ?_ _) | (with_reducible assumption) | (with_reducible refine below_after (by with_reducible assumption) ?_) | go_size)))
    (try simp only [World.size_alloc] at h)
    rw [hG] at h
    rw [hw0]; exact h
  have HB : Hid (Below w.heap.size w w0) := by show Below w.heap.size w w0; rw [hw0]; (repeat' (first | (with_reducible exact Below.refl _ _) | (with_reducible refine Below.alloc ?_ ?_ _) | (with_reducible refine Below.setCell ?_ ?_ _) | (with_reducible refine Below.drew ?_) | (with_reducible refine below_drewN ?_ _) | (with_reducible assumption) | (with_reducible refine below_after (by with_reducible assumption) ?_) | go_size))
  clear hw0
  obtain ⟨GE, hGE⟩ : ∃ g, GM + 1 = g := ⟨_, rfl⟩
  rw [hGE] at HE ⊢
  have le_M : w.heap.size ≤ GM := by omega
  have le_E : w.heap.size ≤ GE := by omega
  have ne_E_M : GE ≠ GM := by omega
  have ne_M_E : GM ≠ GE := by omega
  clear hGE
  obtain ⟨⟨qM0, qM1, qM2, qM3⟩, ⟨fM0, fM1, fM2, fM3⟩, zM⟩ := HM.out
  obtain ⟨⟨qE0, qE1⟩, ⟨fE0, fE1⟩, zE⟩ := HE.out
  go_wp2_with fail
  go_at_call 101
  refine (CM.out _).mono ?_
  rintro e w1 ⟨rfl, hb⟩
  clear qM0 fM0 qM1 fM1 qM2 fM2 qM3 fM3 zM qE0 fE0 qE1 fE1 zE
  have HM := Lib.hid (HM.out.below hb)
  have HE := Lib.hid (HE.out.below hb)
  have HB := Lib.hid (below_after hb HB.out)
  clear hb
  obtain ⟨⟨qM0, qM1, qM2, qM3⟩, ⟨fM0, fM1, fM2, fM3⟩, zM⟩ := HM.out
  obtain ⟨⟨qE0, qE1⟩, ⟨fE0, fE1⟩, zE⟩ := HE.out
  go_wp2_with fail
  go_at_call 102
  refine (CIP.out _ HB.out).mono ?_
  rintro e w2 ⟨rfl, hb⟩
  clear qM0 fM0 qM1 fM1 qM2 fM2 qM3 fM3 zM qE0 fE0 qE1 fE1 zE
  have HM := Lib.hid (HM.out.below hb)
  have HE := Lib.hid (HE.out.below hb)
  have HB := Lib.hid (below_after hb HB.out)
  clear hb
  obtain ⟨⟨qM0, qM1, qM2, qM3⟩, ⟨fM0, fM1, fM2, fM3⟩, zM⟩ := HM.out
  obtain ⟨⟨qE0, qE1⟩, ⟨fE0, fE1⟩, zE⟩ := HE.out
  go_wp2_with fail
  go_at_call 81
  refine (CPT.out _).mono ?_
  rintro e w3 ⟨rfl, hb⟩
  clear qM0 fM0 qM1 fM1 qM2 fM2 qM3 fM3 zM qE0 fE0 qE1 fE1 zE
  have HM := Lib.hid (HM.out.below hb)
  have HE := Lib.hid (HE.out.below hb)
  have HB := Lib.hid (below_after hb HB.out)
  clear hb
  obtain ⟨⟨qM0, qM1, qM2, qM3⟩, ⟨fM0, fM1, fM2, fM3⟩, zM⟩ := HM.out
  obtain ⟨⟨qE0, qE1⟩, ⟨fE0, fE1⟩, zE⟩ := HE.out
  go_wp2_with fail
  go_at_call 103
  refine (CD.out _).mono ?_
  rintro e w4 ⟨rfl, hb⟩
  clear qM0 fM0 qM1 fM1 qM2 fM2 qM3 fM3 zM qE0 fE0 qE1 fE1 zE
  have HM := Lib.hid (HM.out.below hb)
  have HE := Lib.hid (HE.out.below hb)
  have HB := Lib.hid (below_after hb HB.out)
  clear hb
  obtain ⟨⟨qM0, qM1, qM2, qM3⟩, ⟨fM0, fM1, fM2, fM3⟩, zM⟩ := HM.out
  obtain ⟨⟨qE0, qE1⟩, ⟨fE0, fE1⟩, zE⟩ := HE.out
  go_wp2_with fail
  go_at_call 104
  refine (CA.out _).mono ?_
  rintro e w5 ⟨rfl, hb⟩
  clear qM0 fM0 qM1 fM1 qM2 fM2 qM3 fM3 zM qE0 fE0 qE1 fE1 zE
  have HM := Lib.hid (HM.out.below hb)
  have HE := Lib.hid (HE.out.below hb)
  have HB := Lib.hid (below_after hb HB.out)
  clear hb
  obtain ⟨⟨qM0, qM1, qM2, qM3⟩, ⟨fM0, fM1, fM2, fM3⟩, zM⟩ := HM.out
  obtain ⟨⟨qE0, qE1⟩, ⟨fE0, fE1⟩, zE⟩ := HE.out
  have hsz := HB.out.size
  go_wp2_with (at_make; refine wpList_make_full _ rfl _ _ 25 rfl w.heap.size 32 i0 (.agg #[.int .i64 0, .int .i64 0]) 2 Try.underlying25 hi hz0 hz1 .i64 .i64 _ _ n rfl rfl rfl rfl (by rw [hz2]; omega) (by unfold maxLen; omega) hsz ?_; intro wk hown hgr)
  clear qM0 fM0 qM1 fM1 qM2 fM2 qM3 fM3 zM qE0 fE0 qE1 fE1 zE
  obtain ⟨GL, hGL⟩ : ∃ G, w5.heap.size = G := ⟨_, rfl⟩
  have le_L : w.heap.size ≤ GL := by omega
  have ne_M_L : GM ≠ GL := by have := HM.out.2.2; omega
  have ne_E_L : GE ≠ GL := by have := HE.out.2.2; omega
  have HM := Lib.hid (HM.out.same (hgr.block GM HM.out.2.2 (by simp)))
  have HE := Lib.hid (HE.out.same (hgr.block GE HE.out.2.2 (by simp)))
  rw [hGL] at hown ⊢
  have HO : Hid (OwnF w.heap.size wk (.slice (some ⟨GL, 0, none⟩) n n) n (flat (fil is 0))) := by
    have e : (madeCells (Value.agg #[.int .i64 0, .int .i64 0]).cells (n * 2)).toList = (flat (fil is 0)).map (Value.int .i64) := by
      rw [fil_zero, HIL.out, flat_zero]
      apply List.ext_getElem
      · have := hown.1; simp only [List.length_map, List.length_replicate]; omega
      · intro i p1 p2
        simp [madeCells, Value.cells]
        rcases Nat.mod_two_eq_zero_or_one i with hh | hh <;> simp [hh]
    show World.ownsRow _ _ _ _ _ _ _
    rw [← e]; exact hown
  have HB : Hid (Below w.heap.size w wk) := Below.grown HB.out hgr HB.out.size (fun k hk => by cases hk)
  clear hown hgr hGL hsz
  go_wp2_with fail
  go_loopw [38] (fun iv wr => ∃ k : Nat, k ≤ n ∧ iv = .int .i64 k ∧ OwnF w.heap.size wr (.slice (some ⟨GL, 0, none⟩) n n) n (flat (fil is k)) ∧ Bk4 wr GM m0 m1 m2 m3 ∧ Bk2 wr GE b0 b1 ∧ Below w.heap.size w wr) (fun iv _ => n - (intOf iv).toNat)
  case atStart => exact ⟨0, by omega, by go_num, HO.out, HM.out, HE.out, HB.out⟩
  case round =>
    obtain ⟨k, hk, rfl, ho, hmm, hee, hbel⟩ := hrel
    clear HO HM HE HB
    have HO := Lib.hid ho
    have HM := Lib.hid hmm
    have HE := Lib.hid hee
    have HB := Lib.hid hbel
    clear ho hmm hee hbel
    by_cases hlt : k < n
    · skip
      have hpt := HIN.out k (by have := HIL.out; omega)
      have hia := HIA.out k (by have := HIL.out; omega)
      obtain ⟨k0, k1⟩ := HCP.out wr HB.out k hlt
      obtain ⟨X, Y, hXY⟩ : ∃ X Y, ps.getD k (0, 0) = (X, Y) := ⟨_, _, rfl⟩
      rw [hXY] at hpt hia k0 k1
      dsimp only at hpt k0 k1
      have CI : Hid (∀ w, Calls Try.prog 106 #[.agg #[.int .i64 m0, .int .i64 m1, .int .i64 m2, .int .i64 m3], .agg #[.int .i64 X, .int .i64 Y]] w fun e w' => e = .returned (.agg #[.int .i64 (img m0 m1 m2 m3 X Y).1, .int .i64 (img m0 m1 m2 m3 X Y).2]) ∧ Below w.heap.size w w') := fun w => imageOf_any m0 m1 m2 m3 X Y w BM.out.1.1 BM.out.1.2 BM.out.2.1 BM.out.2.2 (by have := hpt.1; unfold Sml at this; unfold Bn; omega) (by have := hpt.2; unfold Sml at this; unfold Bn; omega)
      rw [← mpT_at] at hia
      obtain ⟨U, hU⟩ : ∃ U, (img m0 m1 m2 m3 X Y).1 = U := ⟨_, rfl⟩
      obtain ⟨V, hV⟩ : ∃ U, (img m0 m1 m2 m3 X Y).2 = U := ⟨_, rfl⟩
      have hbU : -5000000000000000000 ≤ 1 * U ∧ 1 * U ≤ 5000000000000000000 := by
        have q1 := mul_bd (A := 1000000000) (B := 1000) BM.out.1.1.1 BM.out.1.1.2 hpt.1.1 hpt.1.2
        have q2 := mul_bd (A := 1000000000) (B := 1000) BM.out.1.2.1 BM.out.1.2.2 hpt.2.1 hpt.2.2
        rw [← hU]
        unfold img
        dsimp only
        omega
      have hbV : -5000000000000000000 ≤ 1 * V ∧ 1 * V ≤ 5000000000000000000 := by
        have q1 := mul_bd (A := 1000000000) (B := 1000) BM.out.2.1.1 BM.out.2.1.2 hpt.1.1 hpt.1.2
        have q2 := mul_bd (A := 1000000000) (B := 1000) BM.out.2.2.1 BM.out.2.2.2 hpt.2.1 hpt.2.2
        rw [← hV]
        unfold img
        dsimp only
        omega
      rw [hU, hV] at CI hia
      have CQ : Hid (∀ w, Calls Try.prog 105 #[.agg #[.int .i64 b0, .int .i64 b1], .agg #[.int .i64 U, .int .i64 V], .int .i64 1] w fun e w' => e = .returned (.agg #[.int .i64 (b0 + 1 * U), .int .i64 (b1 + 1 * V)]) ∧ Below w.heap.size w w') := fun w => plusTimes_w2 _ _ _ _ _ w BE.out.1 BE.out.2 hbU.1 hbU.2 hbV.1 hbV.2
      obtain ⟨R, hR⟩ : ∃ R, b0 + 1 * U = R := ⟨_, rfl⟩
      obtain ⟨S, hS⟩ : ∃ R, b1 + 1 * V = R := ⟨_, rfl⟩
      rw [hR, hS] at CQ hia
      have HFS : Hid ((fil is k).set k (R, S) = fil is (k + 1)) := by
        show _ = _
        rw [← hia]
        exact fil_set is (by rw [HIL.out]; exact hlt)
      have i1 : (0 : Int) ≤ (k : Int) := by omega
      have i2 : (k : Int) < (n : Int) := by omega
      have hgw : g < wr.heap.size := World.block_lt_of_cell? wr _ k0
      clear hpt hia hXY hU hV hbU hbV hR hS
      obtain ⟨⟨qM0, qM1, qM2, qM3⟩, ⟨fM0, fM1, fM2, fM3⟩, zM⟩ := HM.out
      obtain ⟨⟨qE0, qE1⟩, ⟨fE0, fE1⟩, zE⟩ := HE.out
      go_upto_region 10 with fail
      obtain ⟨GA, hGA⟩ : ∃ g, wr.heap.size = g := ⟨_, rfl⟩
      obtain ⟨w21, hw21⟩ : ∃ wx, wx = wr.alloc (.cells #[.int .i64 X, .int .i64 Y] 32) := ⟨_, rfl⟩
      rw [← hw21, hGA]
      have HA : Hid (Bk2 w21 GA X Y) := by rw [hw21, ← hGA]; exact bk2_new wr X Y _
      have le_A : w.heap.size ≤ GA := by rw [← hGA]; exact HB.out.size
      have ne_A_M : GA ≠ GM := by have := HM.out.2.2; omega
      have ne_M_A : GM ≠ GA := Ne.symm ne_A_M
      have ne_A_E : GA ≠ GE := by have := HE.out.2.2; omega
      have ne_E_A : GE ≠ GA := Ne.symm ne_A_E
      have hAL : GA ≠ GL := by have := (World.ownsRow.lt HO.out GL rfl).2; omega
      clear qM0 fM0 qM1 fM1 qM2 fM2 qM3 fM3 zM qE0 fE0 qE1 fE1 zE
      have HM := Lib.hid (HM.out.below ((Below.refl _ _).alloc (Nat.le_refl _) (.cells #[.int .i64 X, .int .i64 Y] 32)))
      have HE := Lib.hid (HE.out.below ((Below.refl _ _).alloc (Nat.le_refl _) (.cells #[.int .i64 X, .int .i64 Y] 32)))
      have HO := Lib.hid (HO.out.below ((Below.refl _ _).alloc (Nat.le_refl _) (.cells #[.int .i64 X, .int .i64 Y] 32)))
      have HB := Lib.hid (Below.alloc HB.out HB.out.size (.cells #[.int .i64 X, .int .i64 Y] 32))
      rw [← hw21] at HM HE HO HB
      clear hw21 hGA
      clear k0 k1
      have ne_A_L : GA ≠ GL := hAL
      go_wp2_with fail
      refine wp_region_held_drew (S := fun W => Below w.heap.size w W ∧ Bk4 W GM m0 m1 m2 m3 ∧ Bk2 W GE b0 b1 ∧ Bk2 W GA X Y) (by kernel_rfl) ?_ (fun hHeld => ?_); focus ((try dsimp only); exact ⟨Below.drew HB.out, HM.out.below (Below.drew (Below.refl _ _)), HE.out.below (Below.drew (Below.refl _ _)), HA.out.below (Below.drew (Below.refl _ _))⟩)
      have HM := Lib.hid (HM.out.below (Below.drew (Below.refl _ _)))
      have HE := Lib.hid (HE.out.below (Below.drew (Below.refl _ _)))
      have HA := Lib.hid (HA.out.below (Below.drew (Below.refl _ _)))
      have HO := Lib.hid (HO.out.below (Below.drew (Below.refl _ _)))
      have hHeld : (fun W => Below w.heap.size w W ∧ Bk4 W GM m0 m1 m2 m3 ∧ Bk2 W GE b0 b1 ∧ Bk2 W GA X Y) _ := hHeld
      obtain ⟨wD21, hwD21⟩ : ∃ wD, w21.drew = wD := ⟨_, rfl⟩
      rw [hwD21] at hHeld HM HE HA HO ⊢
      clear hwD21
      (refine wpAnyH_take (i := 0) (v := ?_) rfl (by kernel_rfl) (by kernel_rfl) (by kernel_rfl) (fun _ _ _ h => h) (Or.inl ⟨rfl, ?_⟩) (by assumption) ?_; rotate_left; focus (intro W hSw; (try dsimp only at hSw); obtain ⟨hSb, hxM, hxE, hxA⟩ := hSw; obtain ⟨⟨iM0, iM1, iM2, iM3⟩, _, _⟩ := hxM; obtain ⟨⟨iE0, iE1⟩, _, _⟩ := hxE; obtain ⟨⟨iA0, iA1⟩, _, _⟩ := hxA; go_simp; try (with_reducible rfl))); (try simp only [Act.put, List.getElem_toArray, List.getElem_cons_succ, List.getElem_cons_zero, List.setIfInBounds_toArray, List.set_cons_zero, List.set_cons_succ])
      (refine wpAnyH_take (i := 1) (v := ?_) rfl (by kernel_rfl) (by kernel_rfl) (by kernel_rfl) (fun _ _ _ h => h) (Or.inl ⟨rfl, ?_⟩) (by assumption) ?_; rotate_left; focus (intro W hSw; (try dsimp only at hSw); obtain ⟨hSb, hxM, hxE, hxA⟩ := hSw; obtain ⟨⟨iM0, iM1, iM2, iM3⟩, _, _⟩ := hxM; obtain ⟨⟨iE0, iE1⟩, _, _⟩ := hxE; obtain ⟨⟨iA0, iA1⟩, _, _⟩ := hxA; go_simp; try (with_reducible rfl))); (try simp only [Act.put, List.getElem_toArray, List.getElem_cons_succ, List.getElem_cons_zero, List.setIfInBounds_toArray, List.set_cons_zero, List.set_cons_succ])
      (refine wpAnyH_take (i := 2) (v := ?_) rfl (by kernel_rfl) (by kernel_rfl) (by kernel_rfl) (fun _ _ _ h => h) (Or.inl ⟨rfl, ?_⟩) (by assumption) ?_; rotate_left; focus (intro W hSw; (try dsimp only at hSw); obtain ⟨hSb, hxM, hxE, hxA⟩ := hSw; obtain ⟨⟨iM0, iM1, iM2, iM3⟩, _, _⟩ := hxM; obtain ⟨⟨iE0, iE1⟩, _, _⟩ := hxE; obtain ⟨⟨iA0, iA1⟩, _, _⟩ := hxA; go_simp; try (with_reducible rfl))); (try simp only [Act.put, List.getElem_toArray, List.getElem_cons_succ, List.getElem_cons_zero, List.setIfInBounds_toArray, List.set_cons_zero, List.set_cons_succ])
      (refine wpAnyH_take (i := 3) (v := ?_) rfl (by kernel_rfl) (by kernel_rfl) (by kernel_rfl) (fun _ _ _ h => h) (Or.inl ⟨rfl, ?_⟩) (by assumption) ?_; rotate_left; focus (intro W hSw; (try dsimp only at hSw); obtain ⟨hSb, hxM, hxE, hxA⟩ := hSw; obtain ⟨⟨iM0, iM1, iM2, iM3⟩, _, _⟩ := hxM; obtain ⟨⟨iE0, iE1⟩, _, _⟩ := hxE; obtain ⟨⟨iA0, iA1⟩, _, _⟩ := hxA; go_simp; try (with_reducible rfl))); (try simp only [Act.put, List.getElem_toArray, List.getElem_cons_succ, List.getElem_cons_zero, List.setIfInBounds_toArray, List.set_cons_zero, List.set_cons_succ])
      (refine wpAnyH_take (i := 4) (v := ?_) rfl (by kernel_rfl) (by kernel_rfl) (by kernel_rfl) (fun _ _ _ h => h) (Or.inl ⟨rfl, ?_⟩) (by assumption) ?_; rotate_left; focus (intro W hSw; (try dsimp only at hSw); obtain ⟨hSb, hxM, hxE, hxA⟩ := hSw; obtain ⟨⟨iM0, iM1, iM2, iM3⟩, _, _⟩ := hxM; obtain ⟨⟨iE0, iE1⟩, _, _⟩ := hxE; obtain ⟨⟨iA0, iA1⟩, _, _⟩ := hxA; go_simp; try (with_reducible rfl))); (try simp only [Act.put, List.getElem_toArray, List.getElem_cons_succ, List.getElem_cons_zero, List.setIfInBounds_toArray, List.set_cons_zero, List.set_cons_succ])
      refine wpAnyH_ready (rs := [5]) (by kernel_rfl) (by simp) ?_; refine AllReadyH.cons rfl (fun K hK => ?_) AllReadyH.nil
      go_simp; (go_at_call 106; refine (CI.out _).mono ?_; rintro en ywr21x0 ⟨rfl, hb2⟩); have HM := Lib.hid (HM.out.below hb2); have HE := Lib.hid (HE.out.below hb2); have HA := Lib.hid (HA.out.below hb2); have HO := Lib.hid (HO.out.below hb2); refine hK.out _ _ ⟨below_after hb2 hHeld.1, HM.out, HE.out, HA.out⟩ (fun hHeld2 => ?_); clear hb2; (clear hHeld; rename _ => hHeld; clear hK K; have hHeld : (fun W => Below w.heap.size w W ∧ Bk4 W GM m0 m1 m2 m3 ∧ Bk2 W GE b0 b1 ∧ Bk2 W GA X Y) _ := hHeld); (try simp only [Act.put, List.getElem_toArray, List.getElem_cons_succ, List.getElem_cons_zero, List.setIfInBounds_toArray, List.set_cons_zero, List.set_cons_succ])
      refine wpAnyH_ready (rs := [6]) (by kernel_rfl) (by simp) ?_; refine AllReadyH.cons rfl (fun K hK => ?_) AllReadyH.nil
      go_simp; (go_at_call 105; refine (CQ.out _).mono ?_; rintro en ywr21x1 ⟨rfl, hb2⟩); have HM := Lib.hid (HM.out.below hb2); have HE := Lib.hid (HE.out.below hb2); have HA := Lib.hid (HA.out.below hb2); have HO := Lib.hid (HO.out.below hb2); refine hK.out _ _ ⟨below_after hb2 hHeld.1, HM.out, HE.out, HA.out⟩ (fun hHeld2 => ?_); clear hb2; (clear hHeld; rename _ => hHeld; clear hK K; have hHeld : (fun W => Below w.heap.size w W ∧ Bk4 W GM m0 m1 m2 m3 ∧ Bk2 W GE b0 b1 ∧ Bk2 W GA X Y) _ := hHeld); (try simp only [Act.put, List.getElem_toArray, List.getElem_cons_succ, List.getElem_cons_zero, List.setIfInBounds_toArray, List.set_cons_zero, List.set_cons_succ])
      (refine wpAnyH_take (i := 7) (v := ?_) rfl (by kernel_rfl) (by kernel_rfl) (by kernel_rfl) (fun _ _ _ h => h) (Or.inl ⟨rfl, ?_⟩) (by assumption) ?_; rotate_left; focus (intro W hSw; (try dsimp only at hSw); obtain ⟨hSb, hxM, hxE, hxA⟩ := hSw; obtain ⟨⟨iM0, iM1, iM2, iM3⟩, _, _⟩ := hxM; obtain ⟨⟨iE0, iE1⟩, _, _⟩ := hxE; obtain ⟨⟨iA0, iA1⟩, _, _⟩ := hxA; go_simp; try (with_reducible rfl))); (try simp only [Act.put, List.getElem_toArray, List.getElem_cons_succ, List.getElem_cons_zero, List.setIfInBounds_toArray, List.set_cons_zero, List.set_cons_succ])
      refine wpAnyH_ready (rs := [8]) (by kernel_rfl) (by simp) ?_; refine AllReadyH.cons rfl (fun K hK => ?_) AllReadyH.nil
      have hfl : (fil is k).length = n := (fil_len is (by rw [HIL.out]; omega)).trans HIL.out
      have hl2 : (flat (fil is k)).length = n * 2 := by rw [flat_len, hfl]
      have c0 := World.ownsRow.cellAt HO.out (k * 2) (by omega)
      have f0 := World.ownsRow.frozenAt HO.out (k * 2)
      have c1 := World.ownsRow.cellAt HO.out (k * 2 + 1) (by omega)
      have f1 := World.ownsRow.frozenAt HO.out (k * 2 + 1)
      have s1 := World.ownsRow.stored HO.out (k * 2) (.int .i64 R)
      have s2 := World.ownsRow.stored s1.1 (k * 2 + 1) (.int .i64 S)
      have h2 := s2.1
      rw [← List.map_set, ← List.map_set, flat_set _ _ _ _ (by rw [hfl]; exact hlt), HFS.out] at h2
      have SO := Lib.hid h2
      obtain ⟨o1, ho1⟩ : ∃ o, ((flat (fil is k)).map (Value.int .i64))[k * 2]? = some o := ⟨_, List.getElem?_eq_getElem (by rw [List.length_map, hl2]; omega)⟩
      obtain ⟨o2, ho2⟩ : ∃ o, ((flat (fil is k)).map (Value.int .i64))[k * 2 + 1]? = some o := ⟨_, List.getElem?_eq_getElem (by rw [List.length_map, hl2]; omega)⟩
      rw [ho1] at c0
      rw [ho2] at c1
      have HM := Lib.hid ((HM.out.far ⟨GL, k * 2, none⟩ (.int .i64 R) (by show GM ≠ GL; exact ne_M_L)).far ⟨GL, k * 2 + 1, none⟩ (.int .i64 S) (by show GM ≠ GL; exact ne_M_L))
      have HE := Lib.hid ((HE.out.far ⟨GL, k * 2, none⟩ (.int .i64 R) (by show GE ≠ GL; exact ne_E_L)).far ⟨GL, k * 2 + 1, none⟩ (.int .i64 S) (by show GE ≠ GL; exact ne_E_L))
      have HA := Lib.hid ((HA.out.far ⟨GL, k * 2, none⟩ (.int .i64 R) (by show GA ≠ GL; exact ne_A_L)).far ⟨GL, k * 2 + 1, none⟩ (.int .i64 S) (by show GA ≠ GL; exact ne_A_L))
      have KB := Below.setCell (Below.setCell hHeld.1 (p := ⟨GL, k * 2, none⟩) le_L (.int .i64 R)) (p := ⟨GL, k * 2 + 1, none⟩) le_L (.int .i64 S)
      have HO := SO
      clear s1 s2 ho1 ho2 hl2 hfl h2 SO
      go_simp
      clear c0 c1 f0 f1
      refine hK.out _ _ ⟨KB, HM.out, HE.out, HA.out⟩ (fun hHeld2 => ?_); (clear hHeld; rename _ => hHeld; clear hK K; have hHeld : (fun W => Below w.heap.size w W ∧ Bk4 W GM m0 m1 m2 m3 ∧ Bk2 W GE b0 b1 ∧ Bk2 W GA X Y) _ := hHeld); (try simp only [Act.put, List.getElem_toArray, List.getElem_cons_succ, List.getElem_cons_zero, List.setIfInBounds_toArray, List.set_cons_zero, List.set_cons_succ])
      refine wpAnyH_done (by kernel_rfl) ?_ _
      have HB := Lib.hid (hHeld.1)
      clear hHeld
      go_wp2_with fail
      go_roundw
      case rel => exact ⟨k + 1, by omega, by go_num, HO.out, HM.out, HE.out, HB.out⟩
      case measure => simp only [intOf]; omega
    · skip
      have hkn : k = n := by omega
      subst hkn
      have HO : Hid (OwnF w.heap.size wr (.slice (some ⟨GL, 0, none⟩) k k) k (flat is)) := by
        have := HO.out
        rw [← HIL.out] at this
        rw [fil_all] at this
        rwa [HIL.out] at this
      have q3 : ¬ (k : Int) < (k : Int) := by omega
      have CQ2 : Hid (∀ W, OwnF w.heap.size W (.slice (some ⟨GL, 0, none⟩) k k) k (flat Q) → Below w.heap.size w W → Calls Try.prog 109 #[.slice (some ⟨GL, 0, none⟩) k k] W (RetQ W (rotL Q (ixm Q k)))) := fun W hW hB2 => by
        obtain ⟨hn1, _, hv⟩ := LV.of_own hW HQL.out (by omega)
        obtain ⟨g', e1, hg', hc'⟩ := hv (by omega)
        simp only [Option.some.injEq, Addr.mk.injEq, and_true] at e1
        subst e1
        refine orderedPolygon_any GL k k Q W (by omega) HQL.out (by omega) (Nat.le_refl _) (by unfold maxLen; omega) hg' hc' ?_
        have := cvx_diff (by rw [HQL.out]; omega) HC.out
        rw [HQL.out] at this
        exact this
      have hrl : (rotL Q (ixm Q k)).length = k := by rw [rotL_len _ (by rw [HQL.out]; exact Nat.le_of_lt (ixm_lt (by omega) k (Nat.le_refl _)))]; exact HQL.out
      have hri : inC (rotL Q (ixm Q k)) = inC is := (inC_mem (rotL_mem Q _)).trans (inC_mem HQM.out)
      have HRL := Lib.hid hrl
      have HRI := Lib.hid hri
      clear hrl hri
      by_cases hneg : D < 0
      · have HQI : Hid (Q = is.reverse) := by have := HDQ.out; rwa [if_pos hneg] at this
        have HRV := Lib.hid (reverse_any w.heap.size GL k k is wr HO.out HIL.out (by omega) (by omega))
        go_wp2_with fail
        go_at_call 107
        refine HRV.out.mono ?_
        rintro e wz ⟨rfl, hoz, hgz⟩
        have HOQ : Hid (OwnF w.heap.size wz (.slice (some ⟨GL, 0, none⟩) k k) k (flat Q)) := by show OwnF _ _ _ _ _; rw [HQI.out]; exact hoz
        have HBZ : Hid (Below w.heap.size w wz) := Below.grown HB.out hgz HB.out.size (fun j hj => by simp at hj; omega)
        clear hoz hgz HRV
        go_wp2_with (first | (go_at_call 109; refine (CQ2.out _ HOQ.out HBZ.out).mono ?_; rintro e w8 ⟨v8, rfl, ho8, hb8⟩))
        obtain ⟨va8, vc8, rfl, _⟩ := own_viewF ho8
        rw [HRL.out] at ho8 ⊢
        have HO8 := Lib.hid ho8
        have HL8 := Lib.hid (LV.of_own ho8 HRL.out (by omega))
        have HB8 := Lib.hid (below_after hb8 HBZ.out)
        have hs8 := HBZ.out.size
        clear ho8 hb8
        cases hic : inC is
        · obtain ⟨e1, e2⟩ := HNO.out hic
          have HL := Lib.hid (limited_no va8 k vc8 _ w8 (by omega) HL8.out (by rw [HRI.out, hic]; simp))
          have E1 := Lib.hid e1
          have E2 := Lib.hid e2
          clear e1 e2
          go_wp2_with fail
          go_at_call 108
          refine HL.out.mono ?_
          rintro e w9 ⟨rfl, hb9⟩
          go_wp2_with fail
          refine bodyPost_ret (v := .tuple #[.slice none 0 0, .int .i64 3]) (by simp (maxDischargeDepth := 8) [results, Try.results58, go_sem, *]) rfl ?_
          rw [E1.out, E2.out]
          exact rtnM_nil (below_after hb9 HB8.out)
        · obtain ⟨e1, e2⟩ := HYE.out hic
          have HL := Lib.hid (limited_yes va8 k vc8 _ w8 (by omega) HL8.out (by omega) (by rw [HRI.out]; exact hic))
          have E1 := Lib.hid e1
          have E2 := Lib.hid e2
          clear e1 e2
          go_wp2_with fail
          go_at_call 108
          refine HL.out.mono ?_
          rintro e w9 ⟨rfl, hb9⟩
          go_wp2_with fail
          refine bodyPost_ret (v := .tuple #[.slice va8 k vc8, .int .i64 0]) (by simp (maxDischargeDepth := 8) [results, Try.results58, go_sem, *]) rfl ?_
          rw [E1.out, E2.out]
          exact ⟨_, rfl, by rw [HRL.out]; exact own_lower (own_below HO8.out hb9) hs8, below_after hb9 HB8.out⟩
      · have HQI : Hid (Q = is) := by have := HDQ.out; rwa [if_neg hneg] at this
        have HOQ : Hid (OwnF w.heap.size wr (.slice (some ⟨GL, 0, none⟩) k k) k (flat Q)) := by show OwnF _ _ _ _ _; rw [HQI.out]; exact HO.out
        have HBZ := HB
        skip
        go_wp2_with (first | (go_at_call 109; refine (CQ2.out _ HOQ.out HBZ.out).mono ?_; rintro e w8 ⟨v8, rfl, ho8, hb8⟩))
        obtain ⟨va8, vc8, rfl, _⟩ := own_viewF ho8
        rw [HRL.out] at ho8 ⊢
        have HO8 := Lib.hid ho8
        have HL8 := Lib.hid (LV.of_own ho8 HRL.out (by omega))
        have HB8 := Lib.hid (below_after hb8 HBZ.out)
        have hs8 := HBZ.out.size
        clear ho8 hb8
        cases hic : inC is
        · obtain ⟨e1, e2⟩ := HNO.out hic
          have HL := Lib.hid (limited_no va8 k vc8 _ w8 (by omega) HL8.out (by rw [HRI.out, hic]; simp))
          have E1 := Lib.hid e1
          have E2 := Lib.hid e2
          clear e1 e2
          go_wp2_with fail
          go_at_call 108
          refine HL.out.mono ?_
          rintro e w9 ⟨rfl, hb9⟩
          go_wp2_with fail
          refine bodyPost_ret (v := .tuple #[.slice none 0 0, .int .i64 3]) (by simp (maxDischargeDepth := 8) [results, Try.results58, go_sem, *]) rfl ?_
          rw [E1.out, E2.out]
          exact rtnM_nil (below_after hb9 HB8.out)
        · obtain ⟨e1, e2⟩ := HYE.out hic
          have HL := Lib.hid (limited_yes va8 k vc8 _ w8 (by omega) HL8.out (by omega) (by rw [HRI.out]; exact hic))
          have E1 := Lib.hid e1
          have E2 := Lib.hid e2
          clear e1 e2
          go_wp2_with fail
          go_at_call 108
          refine HL.out.mono ?_
          rintro e w9 ⟨rfl, hb9⟩
          go_wp2_with fail
          refine bodyPost_ret (v := .tuple #[.slice va8 k vc8, .int .i64 0]) (by simp (maxDischargeDepth := 8) [results, Try.results58, go_sem, *]) rfl ?_
          rw [E1.out, E2.out]
          exact ⟨_, rfl, by rw [HRL.out]; exact own_lower (own_below HO8.out hb9) hs8, below_after hb9 HB8.out⟩
theorem impl_MapPolygon_any (m0 m1 m2 m3 b0 b1 : Int) (a : Option Addr) (n cap : Nat) (ps : List (Int × Int)) (w : World) (h : LV w a n ps) :
    Calls Try.prog 58 #[.agg #[.int .i64 m0, .int .i64 m1, .int .i64 m2, .int .i64 m3], .slice a n cap, .agg #[.int .i64 b0, .int .i64 b1]] w (RetPC w (mpL m0 m1 m2 m3 b0 b1 ps) (mpC m0 m1 m2 m3 b0 b1 ps)) := by
  cases hk : mpOk m0 m1 m2 m3 b0 b1 ps
  · rw [(mp_no1 hk).1, (mp_no1 hk).2]
    exact impl_Map_no1 m0 m1 m2 m3 b0 b1 a n cap ps w h hk
  · cases hu : mpU m0 m1 m2 m3
    · rw [(mp_no5 hk hu).1, (mp_no5 hk hu).2]
      exact impl_Map_no5 m0 m1 m2 m3 b0 b1 a n cap ps w h hk hu
    · exact impl_Map_yes m0 m1 m2 m3 b0 b1 a n cap ps w h hk hu
end Go.Proofs.Ytmjhejmkmdgikaa
