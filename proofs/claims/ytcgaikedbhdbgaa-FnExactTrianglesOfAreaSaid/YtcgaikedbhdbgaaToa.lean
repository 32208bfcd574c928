/-
  TrianglesOfArea in the program and in the model (own work).
-/
import Derived.Test.YtcgaikedbhdbgaaAre4
import Derived.Test.YtcgaikedbhdbgaaTrO
import Derived.Test.YtcgaikedbhdbgaaShL
import Derived.Test.YtcgaikedbhdbgaaOwn
import Derived.Laws.AppendOwnNone
namespace Go.Proofs.Ytcgaikedbhdbgaa
open Go.ChangeShapes Go.WideShapes Go.ChangeAt Go.RowKit
set_option linter.unusedVariables false
set_option maxRecDepth 100000
set_option linter.unusedSimpArgs false
set_option maxRecDepth 100000

def okB (l j h : Nat) : Bool := (enL (nK 0 0 (l : Int) 0 (j : Int) (h : Int)) == (l : Int)) && (enP (nK 0 0 (l : Int) 0 (j : Int) (h : Int)) == (j : Int)) && (enH (areaP (0, 0) ((l : Int), 0) ((j : Int), (h : Int))) (nK 0 0 (l : Int) 0 (j : Int) (h : Int)) == (h : Int))
def rowZ (l h : Nat) : Nat → List Int
  | 0 => []
  | j + 1 => rowZ l h j ++ (if okB l j h = true then [(l : Int), (j : Int), (h : Int)] else [])
def rowN (l h : Nat) : Nat → Nat
  | 0 => 0
  | j + 1 => rowN l h j + (if okB l j h = true then 1 else 0)
theorem rowN_le (l h : Nat) : ∀ j : Nat, rowN l h j ≤ j
  | 0 => Nat.le_refl _
  | j + 1 => by
    have := rowN_le l h j
    unfold rowN
    split <;> omega
def taZ (N : Nat) : Nat → List Int
  | 0 => []
  | l + 1 => taZ N l ++ (if N % (l + 1) = 0 then rowZ (l + 1) (N / (l + 1)) (N / (l + 1)) else [])
def taN (N : Nat) : Nat → Nat
  | 0 => 0
  | l + 1 => taN N l + (if N % (l + 1) = 0 then rowN (l + 1) (N / (l + 1)) (N / (l + 1)) else 0)
theorem taN_le (N : Nat) : ∀ l : Nat, taN N l ≤ l * N
  | 0 => by simp [taN]
  | l + 1 => by
    have h1 := taN_le N l
    have h2 := rowN_le (l + 1) (N / (l + 1)) (N / (l + 1))
    have h3 := Nat.div_le_self N (l + 1)
    rw [Nat.succ_mul]
    unfold taN
    split <;> omega
theorem taN_max {N l : Nat} (hN : N ≤ 200) (hl : l ≤ 200) : taN N l ≤ 40000 := by
  have h1 := taN_le N l
  have h2 : l * N ≤ 200 * 200 := Nat.mul_le_mul hl hN
  omega
def taC (n : Int) : Int := if inB n 1 200 = true then 0 else 2
def taLN (n : Int) : Nat := if inB n 1 200 = true then taN n.toNat n.toNat else 0
def taLZ (n : Int) : List Int := if inB n 1 200 = true then taZ n.toNat n.toNat else []
theorem taLN_len (n : Int) : taLN n ≤ 8388608 := by
  unfold taLN
  split
  · next h =>
    have := inB_iff.1 h
    have := taN_max (N := n.toNat) (l := n.toNat) (by omega) (by omega)
    omega
  · omega
theorem isT_row (l j h : Nat) (hl : 1 ≤ l) (hl2 : l ≤ 200) (hh : h ≤ 200) (hj : j < h) : isT 0 0 (l : Int) 0 (j : Int) (h : Int) = true := by
  refine isT_iff.2 ⟨⟨by omega, by omega⟩, ⟨by omega, by omega⟩, ⟨by omega, by omega⟩, ⟨by omega, by omega⟩, ⟨by omega, by omega⟩, ⟨by omega, by omega⟩, ?_⟩
  rw [area_sd]
  have e : sd 0 0 (l : Int) 0 (j : Int) (h : Int) = (l : Int) * (h : Int) := by unfold sd; simp
  have hp : 0 < (l : Int) * (h : Int) := Int.mul_pos (by omega) (by omega)
  rw [e]
  unfold absI
  omega
theorem TriangleOf_row (l j h : Nat) (w : World) (hl : 1 ≤ l) (hl2 : l ≤ 200) (hh : h ≤ 200) (hj : j < h) : Calls Try.prog 46 #[.agg #[.int .i64 (l : Int), .int .i64 (j : Int), .int .i64 (h : Int)]] w fun e w' => e = .returned (.tuple #[.agg #[.int .i64 0, .int .i64 0, .int .i64 (l : Int), .int .i64 0, .int .i64 (j : Int), .int .i64 (h : Int)], .int .i64 0]) ∧ Below w.heap.size w w' := by
  have hc : toC (l : Int) (j : Int) (h : Int) = 0 := by
    unfold toC
    rw [if_pos ⟨inB_iff.2 ⟨by omega, by omega⟩, inB_iff.2 ⟨by omega, by omega⟩, by omega, by omega⟩]
  have := impl_TriangleOf_any (l : Int) (j : Int) (h : Int) w
  rw [hc, on0_0, on0_0, on0_0] at this
  exact this
/-- A list that grows by another one of the call's own, or by nil. -/
theorem wpList_app_S (w0 : World) {W : World} {ops : Array Oper} {rest : List Oper} {o : Oper} {a : Act} {Q : Exit → Act → World → Prop} (hgd : o.guard = none) (s x : Operand)
    (ho : o.op = .call { callee := .builtin .append, args := #[s, x], argTypes := #[64, 64] })
    {v u : Value} {n m B2 : Nat} {xs ys : List Int} (hown : OwnS w0.heap.size W v n xs) (hsrc : OwnS B2 W u m ys) (hb : Below w0.heap.size w0 W) (hs : a.eval s = v) (hx : a.eval x = u) (hlen : n + m ≤ 4194304)
    (hK : ∀ v' w', OwnS w0.heap.size w' v' (n + m) (xs ++ ys) → Below w0.heap.size w0 w' → wpList Try.prog ops Q rest (a.put o.dst v') w') : wpList Try.prog ops Q (o :: rest) a W := by
  obtain ⟨i0, hi, hz0, hz1, hz2⟩ := info_parts info_sh
  have hl := hsrc.len
  rcases id hsrc.2 with ⟨rfl, hm⟩ | ⟨g, cap, cur, rfl, _⟩
  · subst hm
    have hys : ys = [] := List.length_eq_zero_iff.1 (by omega)
    subst hys
    refine wpList_append_own_none hgd s x 64 ho w0.heap.size 49 i0 3 Try.underlying64 hi v n _ hs hown hx ?_
    refine hK v W ?_ hb
    rw [List.append_nil]
    exact hown
  · refine wpList_append_own _ hgd s x 64 ho w0.heap.size 49 i0 (.agg #[.int .i64 0, .int .i64 0, .int .i64 0]) 3 24 Try.underlying64 hi hz0 hz1 hz2 rfl (by decide) v _ _ hs hown ⟨g, 0, none⟩ m cap (ys.map (Value.int .i64)) hx ?_ ?_ ?_ ?_ ?_ hb.size ?_
    · rw [List.length_map]; omega
    · intro j u hj
      have hjm : j < m * 3 := by
        have := (List.getElem?_eq_some_iff.1 hj).1
        rw [List.length_map] at this
        omega
      have e : (Addr.add ⟨g, 0, none⟩ j) = ⟨g, j, none⟩ := by unfold Addr.add; split <;> simp_all
      rw [e, World.ownsRow.cellAt hsrc j hjm, hj]
    · intro u hu; simp only [List.mem_map] at hu; obtain ⟨y, _, rfl⟩ := hu; rfl
    · unfold maxLen; omega
    · omega
    · intro v' w' h1 h2 _
      refine hK v' w' ?_ (hb.grown h2 hb.size (fun k hk => (hown.lt k hk).1))
      show w'.ownsRow w0.heap.size 49 3 v' (n + m) ((xs ++ ys).map (Value.int .i64))
      rw [List.map_append]; exact h1
/-- A list that grows by one record that has just been laid. -/
theorem wpList_app_S1 (w0 : World) {W : World} {ops : Array Oper} {rest : List Oper} {o : Oper} {a : Act} {Q : Exit → Act → World → Prop} (hgd : o.guard = none) (s x : Operand)
    (ho : o.op = .call { callee := .builtin .append, args := #[s, x], argTypes := #[64, 64] })
    {v : Value} {n g c : Nat} {xs : List Int} {a0 a1 a2 : Int} (hown : OwnS w0.heap.size W v n xs) (c0 : W.cell? ⟨g, 0, none⟩ = some (.int .i64 a0)) (c1 : W.cell? ⟨g, 1, none⟩ = some (.int .i64 a1)) (c2 : W.cell? ⟨g, 2, none⟩ = some (.int .i64 a2)) (hb : Below w0.heap.size w0 W) (hs : a.eval s = v) (hx : a.eval x = .slice (some ⟨g, 0, none⟩) 1 c) (hlen : n + 1 ≤ 4194304)
    (hK : ∀ v' w', OwnS w0.heap.size w' v' (n + 1) (xs ++ [a0, a1, a2]) → Below w0.heap.size w0 w' → wpList Try.prog ops Q rest (a.put o.dst v') w') : wpList Try.prog ops Q (o :: rest) a W := by
  obtain ⟨i0, hi, hz0, hz1, hz2⟩ := info_parts info_sh
  refine wpList_append_own _ hgd s x 64 ho w0.heap.size 49 i0 (.agg #[.int .i64 0, .int .i64 0, .int .i64 0]) 3 24 Try.underlying64 hi hz0 hz1 hz2 rfl (by decide) v _ _ hs hown ⟨g, 0, none⟩ 1 c ([a0, a1, a2].map (Value.int .i64)) hx rfl ?_ ?_ ?_ ?_ hb.size ?_
  · intro j u hj
    match j, hj with
    | 0, hj => simp at hj; subst hj; simpa [Addr.add] using c0
    | 1, hj => simp at hj; subst hj; simpa [Addr.add] using c1
    | 2, hj => simp at hj; subst hj; simpa [Addr.add] using c2
  · intro u hu; simp only [List.mem_map] at hu; obtain ⟨y, _, rfl⟩ := hu; rfl
  · unfold maxLen; omega
  · omega
  · intro v' w' h1 h2 _
    refine hK v' w' ?_ (hb.grown h2 hb.size (fun k hk => (hown.lt k hk).1))
    show w'.ownsRow w0.heap.size 49 3 v' (n + 1) ((xs ++ [a0, a1, a2]).map (Value.int .i64))
    rw [List.map_append]; exact h1
/-- The normal shape of a row's triangle as three numbers, and whether the row's shape is it. -/
theorem row_shape (l j h : Nat) : ∃ L P H : Int, enL (nK 0 0 (l : Int) 0 (j : Int) (h : Int)) = L ∧ enP (nK 0 0 (l : Int) 0 (j : Int) (h : Int)) = P ∧ enH (areaP (0, 0) ((l : Int), 0) ((j : Int), (h : Int))) (nK 0 0 (l : Int) 0 (j : Int) (h : Int)) = H ∧ okB l j h = ((L == (l : Int)) && (P == (j : Int)) && (H == (h : Int))) := ⟨_, _, _, rfl, rfl, rfl, rfl⟩
set_option maxHeartbeats 4000000 in
theorem normalShapes_row (l h : Nat) (w : World) (hl : 1 ≤ l) (hl2 : l ≤ 200) (hh : h ≤ 200) : Calls Try.prog 89 #[.int .i64 (l : Int), .int .i64 (h : Int)] w fun e w' => ∃ v, e = .returned v ∧ OwnS w.heap.size w' v (rowN l h h) (rowZ l h h) ∧ Below w.heap.size w w' := by
  have HL := Lib.hid (And.intro hl (And.intro hl2 hh))
  clear hl hl2 hh
  go_enter Try.func89, Try.ntmps89
  go_wp2_with fail
  go_loopw [5, 13] (fun v i wr => ∃ (j n : Nat) (va : Option Addr) (vc : Nat), j ≤ h ∧ n = rowN l h j ∧ v = .slice va n vc ∧ i = .int .i64 j ∧ OwnS w.heap.size wr (.slice va n vc) n (rowZ l h j) ∧ Below w.heap.size w wr) (fun _ i _ => h - (intOf i).toNat)
  case atStart => exact ⟨0, 0, none, 0, by omega, rfl, rfl, rfl, World.ownsRow_nil _ _ _ _, Below.refl _ _⟩
  case round =>
    obtain ⟨j, n, va, vc, hj, hn, rfl, rfl, hown, hbel⟩ := hrel
    have HO := Lib.hid hown
    have HN := Lib.hid hn
    clear hown hn
    by_cases hlt : j < h
    · have j0 : (0 : Int) ≤ (j : Int) := by omega
      have j1 : (j : Int) < (h : Int) := by omega
      have j2 : (h : Int) ≤ 200 := by have := HL.out.2.2; omega
      have HT := Lib.hid (isT_row l j h HL.out.1 HL.out.2.1 HL.out.2.2 hlt)
      obtain ⟨L, P, H, eL, eP, eH, eO⟩ := row_shape l j h
      have he := eq_sh L P H (l : Int) (j : Int) (h : Int)
      have hNS : ∀ w, Calls Try.prog 43 #[.agg #[.int .i64 0, .int .i64 0, .int .i64 (l : Int), .int .i64 0, .int .i64 (j : Int), .int .i64 (h : Int)]] w fun e w' => e = .returned (.tuple #[.agg #[.int .i64 L, .int .i64 P, .int .i64 H], .int .i64 0]) ∧ Below w.heap.size w w' := by
        intro w
        rw [← eL, ← eP, ← eH]
        exact impl_NormalShape_tri 0 0 (l : Int) 0 (j : Int) (h : Int) w HT.out
      have HNS := Lib.hid hNS
      clear eL eP eH hNS
      go_upto_region 6 with fail
      obtain ⟨g, hg⟩ : ∃ g, wr.heap.size = g := ⟨_, rfl⟩
      obtain ⟨wC, hwC⟩ : ∃ wC, wC = wr.alloc (.cells #[.int .i64 (l : Int), .int .i64 (j : Int), .int .i64 (h : Int)] 49) := ⟨_, rfl⟩
      rw [← hwC, hg]
      have hkg : Bk3 wC g (l : Int) (j : Int) (h : Int) := by rw [hwC, ← hg]; exact bk3_new wr _ _ _ _
      have HO := Lib.hid (HO.out.below ((Below.refl _ _).alloc (Nat.le_refl _) (.cells #[.int .i64 (l : Int), .int .i64 (j : Int), .int .i64 (h : Int)] 49)))
      rw [← hwC] at HO
      have hbC : Below w.heap.size w wC := by rw [hwC]; exact hbel.alloc hbel.size _
      clear hwC hg hbel
      obtain ⟨⟨a0, a1, a2⟩, ⟨a3, a4, a5⟩, a6⟩ := id hkg
      go_wp2_with fail
      go_at_call 46
      refine (TriangleOf_row l j h _ HL.out.1 HL.out.2.1 HL.out.2.2 hlt).mono ?_
      rintro e wx ⟨rfl, bx⟩
      clear a0 a1 a2 a3 a4 a5 a6
      have hkx := hkg.below bx
      have HO := Lib.hid (HO.out.below bx)
      have hbx : Below w.heap.size w wx := below_after bx hbC
      clear hkg bx hbC
      go_upto_region 7 with fail
      obtain ⟨wD, hwD⟩ : ∃ wD, wD = wx.alloc (.cells #[.int .i64 0, .int .i64 0, .int .i64 (l : Int), .int .i64 0, .int .i64 (j : Int), .int .i64 (h : Int)] 27) := ⟨_, rfl⟩
      obtain ⟨g8, hg8⟩ : ∃ g, wx.heap.size = g := ⟨_, rfl⟩
      rw [← hwD, hg8]
      have hk8 : Bk6 wD g8 0 0 (l : Int) 0 (j : Int) (h : Int) := by rw [hwD, ← hg8]; exact bk6_new wx _ _ _ _ _ _ _
      have hkD : Bk3 wD g (l : Int) (j : Int) (h : Int) := by rw [hwD]; exact hkx.below ((Below.refl _ _).alloc (Nat.le_refl _) _)
      have HO := Lib.hid (HO.out.below ((Below.refl _ _).alloc (Nat.le_refl _) (.cells #[.int .i64 0, .int .i64 0, .int .i64 (l : Int), .int .i64 0, .int .i64 (j : Int), .int .i64 (h : Int)] 27)))
      rw [← hwD] at HO
      have hbD : Below w.heap.size w wD := by rw [hwD]; exact hbx.alloc hbx.size _
      clear hwD hg8 hbx hkx
      obtain ⟨⟨a0, a1, a2, a3, a4, a5⟩, _, az⟩ := id hk8
      go_wp2_with fail
      go_at_call 43
      refine (HNS.out _).mono ?_
      rintro e wy ⟨rfl, by1⟩
      clear a0 a1 a2 a3 a4 a5 az hk8
      have hky := hkD.below by1
      have HO := Lib.hid (HO.out.below by1)
      have hby : Below w.heap.size w wy := below_after by1 hbD
      clear hkD by1 hbD
      go_upto_region 8 with fail
      obtain ⟨wE, hwE⟩ : ∃ wE, wE = wy.alloc (.cells #[.int .i64 L, .int .i64 P, .int .i64 H] 49) := ⟨_, rfl⟩
      obtain ⟨q, hq⟩ : ∃ g, wy.heap.size = g := ⟨_, rfl⟩
      rw [← hwE, hq]
      have hkq : Bk3 wE q L P H := by rw [hwE, ← hq]; exact bk3_new wy _ _ _ _
      have hkE : Bk3 wE g (l : Int) (j : Int) (h : Int) := by rw [hwE]; exact hky.below ((Below.refl _ _).alloc (Nat.le_refl _) _)
      have HO := Lib.hid (HO.out.below ((Below.refl _ _).alloc (Nat.le_refl _) (.cells #[.int .i64 L, .int .i64 P, .int .i64 H] 49)))
      rw [← hwE] at HO
      have hbE : Below w.heap.size w wE := by rw [hwE]; exact hby.alloc hby.size _
      clear hwE hq hby hky
      obtain ⟨⟨a0, a1, a2⟩, ⟨a3, a4, a5⟩, a6⟩ := id hkq
      obtain ⟨⟨d0, d1, d2⟩, ⟨d3, d4, d5⟩, d6⟩ := id hkE
      have HN1 : Hid (n ≤ 200) := by
        have h1 := rowN_le l h j
        have h2 := HL.out.2.2
        have h3 := HN.out
        show n ≤ 200
        omega
      cases hok : ((L == (l : Int)) && (P == (j : Int)) && (H == (h : Int)))
      · have hZ : Hid (rowZ l h (j + 1) = rowZ l h j ∧ rowN l h (j + 1) = n) := by
          show rowZ l h (j + 1) = rowZ l h j ∧ rowN l h (j + 1) = n
          rw [show rowZ l h (j + 1) = rowZ l h j ++ (if okB l j h = true then [(l : Int), (j : Int), (h : Int)] else []) from rfl, show rowN l h (j + 1) = rowN l h j + (if okB l j h = true then 1 else 0) from rfl, eO, hok]
          simp [HN.out]
        rw [hok] at he
        clear eO hok
        go_wp2
        go_roundw
        case rel => exact ⟨j + 1, n, va, vc, by omega, hZ.out.2.symm, rfl, by go_num, by rw [hZ.out.1]; exact HO.out, hbE⟩
        case measure => simp [intOf]; omega
      · have hZ : Hid (rowZ l h (j + 1) = rowZ l h j ++ [(l : Int), (j : Int), (h : Int)] ∧ rowN l h (j + 1) = n + 1) := by
          show rowZ l h (j + 1) = rowZ l h j ++ [(l : Int), (j : Int), (h : Int)] ∧ rowN l h (j + 1) = n + 1
          rw [show rowZ l h (j + 1) = rowZ l h j ++ (if okB l j h = true then [(l : Int), (j : Int), (h : Int)] else []) from rfl, show rowN l h (j + 1) = rowN l h j + (if okB l j h = true then 1 else 0) from rfl, eO, hok]
          simp [HN.out]
        rw [hok] at he
        have HO := Lib.hid (HO.out.below ((Below.refl _ _).alloc (Nat.le_refl _) (.cells #[.int .i64 (l : Int), .int .i64 (j : Int), .int .i64 (h : Int)] 49)))
        have hbF := hbE.alloc hbE.size (.cells #[.int .i64 (l : Int), .int .i64 (j : Int), .int .i64 (h : Int)] 49)
        have HBF := Lib.hid hbF
        clear eO hok hbF
        go_wp2_with (at_builtin; refine wpList_app_S1 w rfl _ _ rfl HO.out (a0 := (l : Int)) (a1 := (j : Int)) (a2 := (h : Int)) ?c0 ?c1 ?c2 HBF.out rfl rfl (by have := HN1.out; omega) ?_)
        case c0 => go_cell
        case c1 => go_cell
        case c2 => go_cell
        intro v' w' ho hb
        have ho' : OwnS w.heap.size w' v' (n + 1) (rowZ l h (j + 1)) := by rw [hZ.out.1]; exact ho
        obtain ⟨va', vc', rfl, _⟩ := viewOwnS ho'
        have HO4 := Lib.hid ho'
        clear ho ho' hbE
        go_wp2
        go_roundw
        case rel => exact ⟨j + 1, n + 1, va', vc', by omega, hZ.out.2.symm, rfl, by go_num, HO4.out, hb⟩
        case measure => simp [intOf]; omega
    · obtain rfl : j = h := by omega
      clear hlt
      go_wp2
      refine bodyPost_ret (v := .slice va n vc) (by simp (maxDischargeDepth := 8) [results, Try.results89, go_sem, *]) rfl ?_
      exact ⟨_, rfl, by rw [← HN.out]; exact HO.out, hbel⟩
set_option maxHeartbeats 4000000 in
theorem impl_TrianglesOfArea_in (N : Nat) (w : World) (h1 : 1 ≤ N) (h2 : N ≤ 200) : Calls Try.prog 51 #[.int .i64 (N : Int)] w fun e w' => ∃ v, e = .returned (.tuple #[v, .int .i64 0]) ∧ OwnS w.heap.size w' v (taN N N) (taZ N N) ∧ Below w.heap.size w w' := by
  have H12 := Lib.hid (And.intro h1 h2)
  have g1 : ¬ ((N : Int) < 1) := by omega
  have g2 : ¬ (200 < (N : Int)) := by omega
  clear h1 h2
  go_enter Try.func51, Try.ntmps51
  go_wp2_with fail
  go_loopw [4, 5] (fun v i wr => ∃ (l n : Nat) (va : Option Addr) (vc : Nat), 1 ≤ l ∧ l ≤ N + 1 ∧ n = taN N (l - 1) ∧ v = .slice va n vc ∧ i = .int .i64 l ∧ OwnS w.heap.size wr (.slice va n vc) n (taZ N (l - 1)) ∧ Below w.heap.size w wr) (fun _ i _ => N + 1 - (intOf i).toNat)
  case atStart => exact ⟨1, 0, none, 0, by omega, by omega, rfl, rfl, rfl, World.ownsRow_nil _ _ _ _, Below.refl _ _⟩
  case round =>
    obtain ⟨l, n, va, vc, hl1, hl2, hn, rfl, rfl, hown, hbel⟩ := hrel
    have HO := Lib.hid hown
    have HN := Lib.hid hn
    clear hown hn g1 g2
    by_cases hle : l ≤ N
    · have HL := Lib.hid hl1
      have l0 : (1 : Int) ≤ (l : Int) := by omega
      have l1 : (l : Int) ≤ (N : Int) := by omega
      have l2 : ¬ ((l : Int) = 0) := by omega
      have lb : (N : Int) ≤ 200 := by have := H12.out.2; omega
      have hr : (N : Int).tmod (l : Int) = ((N % l : Nat) : Int) := rfl
      have hq : (N : Int).tdiv (l : Int) = ((N / l : Nat) : Int) := rfl
      have hqb := Nat.div_le_self N l
      obtain ⟨r, hrr⟩ : ∃ r, N % l = r := ⟨_, rfl⟩
      obtain ⟨h, hqq⟩ : ∃ h, N / l = h := ⟨_, rfl⟩
      have hrb : r < l := by rw [← hrr]; exact Nat.mod_lt _ hl1
      rw [hrr] at hr
      rw [hqq] at hq hqb
      have wr1 : IntKind.i64.wrap ((r : Nat) : Int) = (r : Int) := by rw [IntKind.wrap_i64]; omega
      have wq1 : IntKind.i64.wrap ((h : Nat) : Int) = (h : Int) := by rw [IntKind.wrap_i64]; omega
      have HHB : Hid (h ≤ 200) := by have := H12.out.2; show h ≤ 200; omega
      have HTZ : Hid (taZ N l = taZ N (l - 1) ++ (if r = 0 then rowZ l h h else []) ∧ taN N l = taN N (l - 1) + (if r = 0 then rowN l h h else 0)) := by
        obtain ⟨k, rfl⟩ : ∃ k, l = k + 1 := ⟨l - 1, by omega⟩
        show taZ N (k + 1) = _ ∧ taN N (k + 1) = _
        rw [← hrr, ← hqq]
        exact ⟨rfl, rfl⟩
      clear hrr hqq
      have HN1 : Hid (n ≤ 40000) := by rw [HN.out]; exact taN_max H12.out.2 (by have := H12.out.2; omega)
      by_cases hz : r = 0
      · have hrz : ((r : Nat) : Int) = 0 := by omega
        go_wp2_with fail
        go_at_call 89
        refine (normalShapes_row l h _ HL.out (by have := H12.out.2; omega) HHB.out).mono ?_
        rintro e wx ⟨u, rfl, hu, bx⟩
        have HU := Lib.hid hu
        have HO := Lib.hid (HO.out.below bx)
        have HBX : Hid (Below w.heap.size w wx) := below_after bx hbel
        clear hu bx hbel
        go_wp2_with (at_builtin; refine wpList_app_S w rfl _ _ rfl HO.out HU.out HBX.out rfl rfl (by have h1 := HN1.out; have h2 := rowN_le l h h; have h3 := HHB.out; omega) ?_)
        intro v' w' ho hb
        have hn' : taN N l = n + rowN l h h := by rw [HTZ.out.2, if_pos hz, HN.out]
        have ho' : OwnS w.heap.size w' v' (n + rowN l h h) (taZ N l) := by rw [HTZ.out.1, if_pos hz]; exact ho
        obtain ⟨va', vc', rfl, _⟩ := viewOwnS ho'
        have HO4 := Lib.hid (And.intro ho' hn')
        clear ho ho' hn'
        go_wp2
        go_roundw
        case rel => exact ⟨l + 1, n + rowN l h h, va', vc', by omega, by omega, HO4.out.2.symm, rfl, by go_num, HO4.out.1, hb⟩
        case measure => simp [intOf]; omega
      · have hrz : ¬ (((r : Nat) : Int) = 0) := by omega
        have hZ : Hid (taZ N l = taZ N (l - 1) ∧ taN N l = n) := by
          show _ ∧ _
          rw [HTZ.out.1, HTZ.out.2, if_neg hz, if_neg hz, List.append_nil, HN.out]
          exact ⟨rfl, rfl⟩
        go_wp2
        go_roundw
        case rel => exact ⟨l + 1, n, va, vc, by omega, by omega, hZ.out.2.symm, rfl, by go_num, by show OwnS _ _ _ _ (taZ N l); rw [hZ.out.1]; exact HO.out, hbel⟩
        case measure => simp [intOf]; omega
    · obtain rfl : l = N + 1 := by omega
      have hle2 : ¬ (((N + 1 : Nat) : Int) ≤ (N : Int)) := by omega
      clear hle
      go_wp2
      refine bodyPost_ret (v := .tuple #[.slice va n vc, .int .i64 0]) (by simp (maxDischargeDepth := 8) [results, Try.results51, go_sem, *]) rfl ?_
      exact ⟨_, rfl, by have e := HN.out; simp only [Nat.add_sub_cancel] at e; rw [← e]; exact HO.out, hbel⟩
set_option maxHeartbeats 4000000 in
theorem spec_TrianglesOfArea_in (N : Nat) (w : World) (h1 : 1 ≤ N) (h2 : N ≤ 200) : Calls Try.prog 50 #[.int .i64 (N : Int)] w fun e w' => ∃ v, e = .returned (.tuple #[v, .int .i64 0]) ∧ OwnS w.heap.size w' v (taN N N) (taZ N N) ∧ Below w.heap.size w w' := by
  have H12 := Lib.hid (And.intro h1 h2)
  have g1 : inB (N : Int) 1 200 = true := inB_iff.2 ⟨by omega, by omega⟩
  clear h1 h2
  go_enter Try.func50, Try.ntmps50
  go_wp2_with (first | (go_at_call 74; refine (l01In_any _ _ _ _).mono ?_; rintro e wn ⟨rfl, rfl⟩))
  go_loopw [4, 5] (fun v i wr => ∃ (l n : Nat) (va : Option Addr) (vc : Nat), 1 ≤ l ∧ l ≤ N + 1 ∧ n = taN N (l - 1) ∧ v = .slice va n vc ∧ i = .int .i64 l ∧ OwnS w.heap.size wr (.slice va n vc) n (taZ N (l - 1)) ∧ Below w.heap.size w wr) (fun _ i _ => N + 1 - (intOf i).toNat)
  case atStart => exact ⟨1, 0, _, _, by omega, by omega, rfl, rfl, rfl, World.ownsRow_made w #[] 0 (Nat.le_refl _) (Nat.zero_le _) rfl, (Below.refl _ _).alloc (Nat.le_refl _) _⟩
  case round =>
    obtain ⟨l, n, va, vc, hl1, hl2, hn, rfl, rfl, hown, hbel⟩ := hrel
    have HN := Lib.hid hn
    clear hn g1
    by_cases hle : l ≤ N
    · have HL := Lib.hid hl1
      have l0 : (1 : Int) ≤ (l : Int) := by omega
      have l1 : (l : Int) ≤ (N : Int) := by omega
      have l2 : ¬ ((l : Int) = 0) := by omega
      have lb : (N : Int) ≤ 200 := by have := H12.out.2; omega
      have hr : (N : Int).tmod (l : Int) = ((N % l : Nat) : Int) := rfl
      have hq : (N : Int).tdiv (l : Int) = ((N / l : Nat) : Int) := rfl
      have hqb := Nat.div_le_self N l
      obtain ⟨r, hrr⟩ : ∃ r, N % l = r := ⟨_, rfl⟩
      obtain ⟨h, hqq⟩ : ∃ h, N / l = h := ⟨_, rfl⟩
      have hrb : r < l := by rw [← hrr]; exact Nat.mod_lt _ hl1
      rw [hrr] at hr
      rw [hqq] at hq hqb
      have wr1 : IntKind.i64.wrap ((r : Nat) : Int) = (r : Int) := by rw [IntKind.wrap_i64]; omega
      have wq1 : IntKind.i64.wrap ((h : Nat) : Int) = (h : Int) := by rw [IntKind.wrap_i64]; omega
      have HHB : Hid (h ≤ 200) := by have := H12.out.2; show h ≤ 200; omega
      have HTZ : Hid (taZ N l = taZ N (l - 1) ++ (if r = 0 then rowZ l h h else []) ∧ taN N l = taN N (l - 1) + (if r = 0 then rowN l h h else 0)) := by
        obtain ⟨k, rfl⟩ : ∃ k, l = k + 1 := ⟨l - 1, by omega⟩
        show taZ N (k + 1) = _ ∧ taN N (k + 1) = _
        rw [← hrr, ← hqq]
        exact ⟨rfl, rfl⟩
      clear hrr hqq
      by_cases hz : r = 0
      · have hrz : ((r : Nat) : Int) = 0 := by omega
        have hN0 : n = taN N (l - 1) + rowN l h 0 := by rw [HN.out]; rfl
        have hO0 : OwnS w.heap.size wr (.slice va n vc) n (taZ N (l - 1) ++ rowZ l h 0) := by show OwnS _ _ _ _ (taZ N (l - 1) ++ []); rw [List.append_nil]; exact hown
        clear hown
        go_wp2_with fail
        go_loopw [4, 6] (fun v i wr => ∃ (j n : Nat) (va : Option Addr) (vc : Nat), j ≤ h ∧ n = taN N (l - 1) + rowN l h j ∧ v = .slice va n vc ∧ i = .int .i64 j ∧ OwnS w.heap.size wr (.slice va n vc) n (taZ N (l - 1) ++ rowZ l h j) ∧ Below w.heap.size w wr) (fun _ i _ => h - (intOf i).toNat)
        case atStart => exact ⟨0, n, va, vc, by omega, hN0, rfl, rfl, hO0, hbel⟩
        case round =>
          clear hN0 hO0 hbel HN
          obtain ⟨j, n, va, vc, hj, hn, rfl, rfl, hown, hbel⟩ := hrel
          have HO := Lib.hid hown
          have HN := Lib.hid hn
          clear hown hn
          by_cases hlt : j < h
          · have j0 : (0 : Int) ≤ (j : Int) := by omega
            have j1 : (j : Int) < (h : Int) := by omega
            have j2 : (h : Int) ≤ 200 := by have := HHB.out; omega
            have HT := Lib.hid (isT_row l j h HL.out (by have := H12.out.2; omega) HHB.out hlt)
            obtain ⟨L, P, H, eL, eP, eH, eO⟩ := row_shape l j h
            have he := eq_sh L P H (l : Int) (j : Int) (h : Int)
            have hNS : ∀ w, Calls Try.prog 84 #[.agg #[.int .i64 0, .int .i64 0, .int .i64 (l : Int), .int .i64 0, .int .i64 (j : Int), .int .i64 (h : Int)]] w fun e w' => e = .returned (.agg #[.int .i64 L, .int .i64 P, .int .i64 H]) ∧ Below w.heap.size w w' := by
              intro w
              rw [← eL, ← eP, ← eH]
              exact l04Normal_tri 0 0 (l : Int) 0 (j : Int) (h : Int) w HT.out
            have HNS := Lib.hid hNS
            clear eL eP eH hNS
            go_upto_region 12 with fail
            obtain ⟨g, hg⟩ : ∃ g, wr.heap.size = g := ⟨_, rfl⟩
            obtain ⟨wC, hwC⟩ : ∃ wC, wC = wr.alloc (.cells #[.int .i64 (l : Int), .int .i64 (j : Int), .int .i64 (h : Int)] 49) := ⟨_, rfl⟩
            rw [← hwC, hg]
            have hkg : Bk3 wC g (l : Int) (j : Int) (h : Int) := by rw [hwC, ← hg]; exact bk3_new wr _ _ _ _
            have HO := Lib.hid (HO.out.below ((Below.refl _ _).alloc (Nat.le_refl _) (.cells #[.int .i64 (l : Int), .int .i64 (j : Int), .int .i64 (h : Int)] 49)))
            rw [← hwC] at HO
            have hbC : Below w.heap.size w wC := by rw [hwC]; exact hbel.alloc hbel.size _
            have HG : Hid (∀ W, Below wC.heap.size wC W → Bk3 W g (l : Int) (j : Int) (h : Int) ∧ Below w.heap.size w W) := fun W hW => ⟨hkg.below hW, below_after hW hbC⟩
            clear hwC hg hbel hkg
            have HN1 : Hid (n ≤ 40200) := by
              have h1 := rowN_le l h j
              have h2 := HHB.out
              have h3 := HN.out
              have h4 := taN_max (l := l - 1) H12.out.2 (by have := H12.out.2; omega)
              show n ≤ 40200
              omega
            go_cut [38] (fun v38 wx => v38 = .bool ((L == (l : Int)) && (P == (j : Int)) && (H == (h : Int))) ∧ OwnS w.heap.size wx (.slice va n vc) n (taZ N (l - 1) ++ rowZ l h j) ∧ Below wC.heap.size wC wx)
            case first =>
              refine wp_region_held_drew (S := fun W => Below wC.heap.size wC W) (by kernel_rfl) ?_ (fun hHeld => ?_); focus ((try dsimp only); exact (Below.refl _ _).drew)
              have HO := Lib.hid (HO.out.below (Below.drew (Below.refl _ _)))
              have hHeld : Below wC.heap.size wC _ := hHeld
              obtain ⟨wD, hwD⟩ : ∃ wD, wC.drew = wD := ⟨_, rfl⟩
              rw [hwD] at hHeld HO ⊢
              clear hwD
              (refine wpAnyH_take (i := 0) (v := ?_) rfl (by kernel_rfl) (by kernel_rfl) (by kernel_rfl) (fun _ _ _ h => h) (Or.inl ⟨rfl, ?_⟩) (by assumption) ?_; rotate_left; focus (intro W hSw; (try dsimp only at hSw); obtain ⟨hW1, hW2⟩ := HG.out _ hSw; obtain ⟨⟨a0, a1, a2⟩, _, az⟩ := hW1; go_simp; try (with_reducible rfl))); (try simp only [Act.put, List.getElem_toArray, List.getElem_cons_succ, List.getElem_cons_zero, List.setIfInBounds_toArray, List.set_cons_zero, List.set_cons_succ])
              (refine wpAnyH_take (i := 3) (v := ?_) rfl (by kernel_rfl) (by kernel_rfl) (by kernel_rfl) (fun _ _ _ h => h) (Or.inl ⟨rfl, ?_⟩) (by assumption) ?_; rotate_left; focus (intro W hSw; (try dsimp only at hSw); obtain ⟨hW1, hW2⟩ := HG.out _ hSw; obtain ⟨⟨a0, a1, a2⟩, _, az⟩ := hW1; go_simp; try (with_reducible rfl))); (try simp only [Act.put, List.getElem_toArray, List.getElem_cons_succ, List.getElem_cons_zero, List.setIfInBounds_toArray, List.set_cons_zero, List.set_cons_succ])
              refine wpAnyH_ready (rs := [1]) (by kernel_rfl) (by simp) ?_; refine AllReadyH.cons rfl (fun K hK => ?_) AllReadyH.nil
              go_simp; (go_at_call 87; refine (l04Of_any _ _ _ _).mono ?_; rintro en w0 ⟨rfl, hb2⟩); have HO := Lib.hid (HO.out.below hb2); refine hK.out _ _ (below_after hb2 hHeld) (fun hHeld2 => ?_); clear hb2; (clear hHeld; rename _ => hHeld; clear hK K; have hHeld : Below wC.heap.size wC _ := hHeld); (try simp only [Act.put, List.getElem_toArray, List.getElem_cons_succ, List.getElem_cons_zero, List.setIfInBounds_toArray, List.set_cons_zero, List.set_cons_succ])
              refine wpAnyH_ready (rs := [2]) (by kernel_rfl) (by simp) ?_; refine AllReadyH.cons rfl (fun K hK => ?_) AllReadyH.nil
              go_simp; (go_at_call 84; refine (HNS.out _).mono ?_; rintro en w1 ⟨rfl, hb2⟩); have HO := Lib.hid (HO.out.below hb2); refine hK.out _ _ (below_after hb2 hHeld) (fun hHeld2 => ?_); clear hb2; (clear hHeld; rename _ => hHeld; clear hK K; have hHeld : Below wC.heap.size wC _ := hHeld); (try simp only [Act.put, List.getElem_toArray, List.getElem_cons_succ, List.getElem_cons_zero, List.setIfInBounds_toArray, List.set_cons_zero, List.set_cons_succ])
              (refine wpAnyH_take (i := 4) (v := ?_) rfl (by kernel_rfl) (by kernel_rfl) (by kernel_rfl) (fun _ _ _ h => h) (Or.inl ⟨rfl, ?_⟩) (by assumption) ?_; rotate_left; focus (intro W hSw; (try dsimp only at hSw); obtain ⟨hW1, hW2⟩ := HG.out _ hSw; obtain ⟨⟨a0, a1, a2⟩, _, az⟩ := hW1; go_simp; try (with_reducible rfl))); (try simp only [Act.put, List.getElem_toArray, List.getElem_cons_succ, List.getElem_cons_zero, List.setIfInBounds_toArray, List.set_cons_zero, List.set_cons_succ])
              refine wpAnyH_done (by kernel_rfl) ?_ _
              go_wp2_with fail
              go_meet
              exact ⟨rfl, HO.out, hHeld⟩
            case rest =>
              obtain ⟨rfl, hO2, hbx⟩ := hcut
              have HO2 := Lib.hid hO2
              obtain ⟨⟨⟨a0, a1, a2⟩, ⟨a3, a4, a5⟩, a6⟩, hbw⟩ := HG.out wc hbx
              have HBW := Lib.hid hbw
              clear hO2 hbx
              cases hok : ((L == (l : Int)) && (P == (j : Int)) && (H == (h : Int)))
              · have hZ : Hid (rowZ l h (j + 1) = rowZ l h j ∧ rowN l h (j + 1) = rowN l h j) := by
                  show rowZ l h (j + 1) = rowZ l h j ∧ rowN l h (j + 1) = rowN l h j
                  rw [show rowZ l h (j + 1) = rowZ l h j ++ (if okB l j h = true then [(l : Int), (j : Int), (h : Int)] else []) from rfl, show rowN l h (j + 1) = rowN l h j + (if okB l j h = true then 1 else 0) from rfl, eO, hok]
                  simp
                clear eO
                go_wp2
                go_roundw
                case rel => exact ⟨j + 1, n, va, vc, by omega, by rw [hZ.out.2]; exact HN.out, rfl, by go_num, by rw [hZ.out.1]; exact HO2.out, HBW.out⟩
                case measure => simp [intOf]; omega
              · have hZ : Hid (rowZ l h (j + 1) = rowZ l h j ++ [(l : Int), (j : Int), (h : Int)] ∧ rowN l h (j + 1) = rowN l h j + 1) := by
                  show rowZ l h (j + 1) = rowZ l h j ++ [(l : Int), (j : Int), (h : Int)] ∧ rowN l h (j + 1) = rowN l h j + 1
                  rw [show rowZ l h (j + 1) = rowZ l h j ++ (if okB l j h = true then [(l : Int), (j : Int), (h : Int)] else []) from rfl, show rowN l h (j + 1) = rowN l h j + (if okB l j h = true then 1 else 0) from rfl, eO, hok]
                  simp
                clear eO
                have HO3 := Lib.hid (HO2.out.below ((Below.refl _ _).alloc (Nat.le_refl _) (.cells #[.int .i64 (l : Int), .int .i64 (j : Int), .int .i64 (h : Int)] 49)))
                have HBF : Hid (Below w.heap.size w (wc.alloc (.cells #[.int .i64 (l : Int), .int .i64 (j : Int), .int .i64 (h : Int)] 49))) := hbw.alloc hbw.size _
                clear hbw
                go_wp2_with (at_builtin; refine wpList_app_S1 w rfl _ _ rfl HO3.out (a0 := (l : Int)) (a1 := (j : Int)) (a2 := (h : Int)) ?c0 ?c1 ?c2 HBF.out rfl rfl (by have := HN1.out; omega) ?_)
                case c0 => go_cell
                case c1 => go_cell
                case c2 => go_cell
                intro v' w' ho hb
                have ho' : OwnS w.heap.size w' v' (n + 1) (taZ N (l - 1) ++ rowZ l h (j + 1)) := by rw [hZ.out.1]; first | exact ho | (rw [← List.append_assoc]; exact ho)
                obtain ⟨va', vc', rfl, _⟩ := viewOwnS ho'
                have HO4 := Lib.hid ho'
                clear ho ho'
                go_wp2
                go_roundw
                case rel => exact ⟨j + 1, n + 1, va', vc', by omega, by rw [hZ.out.2, HN.out]; omega, rfl, by go_num, HO4.out, hb⟩
                case measure => simp [intOf]; omega
          · obtain rfl : j = h := by omega
            clear hlt
            have hn' : taN N l = n := by rw [HTZ.out.2, if_pos hz, HN.out]
            have ho' : OwnS w.heap.size wr (.slice va n vc) n (taZ N l) := by rw [HTZ.out.1, if_pos hz]; exact HO.out
            have HO4 := Lib.hid (And.intro ho' hn')
            clear ho' hn'
            go_wp2
            go_roundw
            case rel => exact ⟨l + 1, n, va, vc, by omega, by omega, HO4.out.2.symm, rfl, by go_num, HO4.out.1, hbel⟩
            case measure => simp [intOf]; omega
      · have hrz : ¬ (((r : Nat) : Int) = 0) := by omega
        have hZ : Hid (taZ N l = taZ N (l - 1) ∧ taN N l = n) := by
          show _ ∧ _
          rw [HTZ.out.1, HTZ.out.2, if_neg hz, if_neg hz, List.append_nil, HN.out]
          exact ⟨rfl, rfl⟩
        have HO := Lib.hid hown
        clear hown
        go_wp2
        go_roundw
        case rel => exact ⟨l + 1, n, va, vc, by omega, by omega, hZ.out.2.symm, rfl, by go_num, by show OwnS _ _ _ _ (taZ N l); rw [hZ.out.1]; exact HO.out, hbel⟩
        case measure => simp [intOf]; omega
    · obtain rfl : l = N + 1 := by omega
      have hle2 : ¬ (((N + 1 : Nat) : Int) ≤ (N : Int)) := by omega
      clear hle
      go_wp2
      refine bodyPost_ret (v := .tuple #[.slice va n vc, .int .i64 0]) (by simp (maxDischargeDepth := 8) [results, Try.results50, go_sem, *]) rfl ?_
      exact ⟨_, rfl, by have e := HN.out; simp only [Nat.add_sub_cancel] at e; rw [← e]; exact hown, hbel⟩
set_option maxHeartbeats 1600000 in
theorem impl_TrianglesOfArea_any (n : Int) (w : World) : Calls Try.prog 51 #[.int .i64 n] w fun e w' => ∃ v, e = .returned (.tuple #[v, .int .i64 (taC n)]) ∧ OwnS w.heap.size w' v (taLN n) (taLZ n) ∧ Below w.heap.size w w' := by
  cases h : inB n 1 200
  · have e1 : taC n = 2 := by unfold taC; rw [h]; rfl
    have e2 : taLN n = 0 := by unfold taLN; rw [h]; rfl
    have e3 : taLZ n = [] := by unfold taLZ; rw [h]; rfl
    rw [e1, e2, e3]
    clear e1 e2 e3
    by_cases h1 : n < 1
    · go_enter Try.func51, Try.ntmps51
      go_wp2
      refine bodyPost_ret (v := .tuple #[.slice none 0 0, .int .i64 2]) (by simp (maxDischargeDepth := 8) [results, Try.results51, go_sem, *]) rfl ?_
      exact ⟨_, rfl, World.ownsRow_nil _ _ _ _, by (repeat' (first | (with_reducible exact Below.refl _ _) | (with_reducible refine Below.alloc ?_ ?_ _) | (with_reducible refine Below.setCell ?_ ?_ _) | (with_reducible refine Below.drew ?_) | (with_reducible refine below_drewN ?_ _) | (with_reducible assumption) | (with_reducible refine below_after (by with_reducible assumption) ?_) | go_size))⟩
    · have h2 : 200 < n := by have := inB_not.1 h; omega
      go_enter Try.func51, Try.ntmps51
      go_wp2
      refine bodyPost_ret (v := .tuple #[.slice none 0 0, .int .i64 2]) (by simp (maxDischargeDepth := 8) [results, Try.results51, go_sem, *]) rfl ?_
      exact ⟨_, rfl, World.ownsRow_nil _ _ _ _, by (repeat' (first | (with_reducible exact Below.refl _ _) | (with_reducible refine Below.alloc ?_ ?_ _) | (with_reducible refine Below.setCell ?_ ?_ _) | (with_reducible refine Below.drew ?_) | (with_reducible refine below_drewN ?_ _) | (with_reducible assumption) | (with_reducible refine below_after (by with_reducible assumption) ?_) | go_size))⟩
  · have hb := inB_iff.1 h
    obtain ⟨N, rfl⟩ : ∃ N : Nat, n = (N : Int) := ⟨n.toNat, by omega⟩
    have e1 : taC (N : Int) = 0 := by unfold taC; rw [h]; rfl
    have e2 : taLN (N : Int) = taN N N := by unfold taLN; rw [h]; rfl
    have e3 : taLZ (N : Int) = taZ N N := by unfold taLZ; rw [h]; rfl
    rw [e1, e2, e3]
    exact impl_TrianglesOfArea_in N w (by omega) (by omega)
set_option maxHeartbeats 1600000 in
theorem spec_TrianglesOfArea_any (n : Int) (w : World) : Calls Try.prog 50 #[.int .i64 n] w fun e w' => ∃ v, e = .returned (.tuple #[v, .int .i64 (taC n)]) ∧ OwnS w.heap.size w' v (taLN n) (taLZ n) ∧ Below w.heap.size w w' := by
  cases h : inB n 1 200
  · have e1 : taC n = 2 := by unfold taC; rw [h]; rfl
    have e2 : taLN n = 0 := by unfold taLN; rw [h]; rfl
    have e3 : taLZ n = [] := by unfold taLZ; rw [h]; rfl
    rw [e1, e2, e3]
    clear e1 e2 e3
    go_enter Try.func50, Try.ntmps50
    go_wp2_with (first | (go_at_call 74; refine (l01In_any _ _ _ _).mono ?_; rintro e wn ⟨rfl, rfl⟩))
    refine bodyPost_ret (v := .tuple #[.slice none 0 0, .int .i64 2]) (by simp (maxDischargeDepth := 8) [results, Try.results50, go_sem, *]) rfl ?_
    exact ⟨_, rfl, World.ownsRow_nil _ _ _ _, by (repeat' (first | (with_reducible exact Below.refl _ _) | (with_reducible refine Below.alloc ?_ ?_ _) | (with_reducible refine Below.setCell ?_ ?_ _) | (with_reducible refine Below.drew ?_) | (with_reducible refine below_drewN ?_ _) | (with_reducible assumption) | (with_reducible refine below_after (by with_reducible assumption) ?_) | go_size))⟩
  · have hb := inB_iff.1 h
    obtain ⟨N, rfl⟩ : ∃ N : Nat, n = (N : Int) := ⟨n.toNat, by omega⟩
    have e1 : taC (N : Int) = 0 := by unfold taC; rw [h]; rfl
    have e2 : taLN (N : Int) = taN N N := by unfold taLN; rw [h]; rfl
    have e3 : taLZ (N : Int) = taZ N N := by unfold taLZ; rw [h]; rfl
    rw [e1, e2, e3]
    exact spec_TrianglesOfArea_in N w (by omega) (by omega)
end Go.Proofs.Ytcgaikedbhdbgaa
