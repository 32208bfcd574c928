/-
  What the walks of GeodesicOf want (own work).
-/
import Derived.Test.YtohnmogejidpdabDoorGeM
import Derived.Test.YtohnmogejidpdabDoorFdF
import Derived.Test.YtohnmogejidpdabDoorBk4
import Derived.Test.YtohnmogejidpdabDoorOwn
import Derived.Deep.Cut
namespace Go.Proofs.YtohnmogejidpdabDoor
open Go.ChangeShapes Go.WideShapes Go.ChangeAt Go.RowKit
set_option linter.unusedVariables false
set_option maxRecDepth 100000
set_option linter.unusedSimpArgs false
set_option maxRecDepth 100000

theorem Bk2.grown {w w' : World} {g : Nat} {r : Option Nat} {a b : Int} (h : Bk2 w g a b) (hg : w.grownBy w' r) (hne : r ≠ some g) : Bk2 w' g a b := h.same (hg.block g h.2.2 (fun e => hne e.symm))
theorem Bk4.grown {w w' : World} {g : Nat} {r : Option Nat} {a b c d : Int} (h : Bk4 w g a b c d) (hg : w.grownBy w' r) (hne : r ≠ some g) : Bk4 w' g a b c d := h.same (hg.block g h.2.2 (fun e => hne e.symm))
theorem set_ownF {B : Nat} {w : World} {v : Value} {n : Nat} {zs : List Int} {g : Nat} (h : OwnF B w v n zs) (j : Nat) (x : Value) (hne : ∀ k, v.ownBlock = some k → k ≠ g) : OwnF B (w.setCell ⟨g, j, none⟩ x) v n zs := by
  refine World.ownsRow.kept h (show w.grownBy _ (some g) from ⟨rfl, rfl, rfl, by simp, fun i hi hr => ?_⟩) ?_
  · exact Below.heap_setCell w ⟨g, j, none⟩ x i (by simpa using hr)
  · cases hv : v.ownBlock with
    | none => exact .inl rfl
    | some k => right; simp; exact hne k hv
/-- A list of points that grows by one that has just been laid. -/
theorem wpList_app_P {B : Nat} {W : World} {ops : Array Oper} {rest : List Oper} {o : Oper} {a : Act} {Q : Exit → Act → World → Prop} (hgd : o.guard = none) (s x : Operand)
    (ho : o.op = .call { callee := .builtin .append, args := #[s, x], argTypes := #[28, 28] })
    {v : Value} {n g c : Nat} {xs : List Int} {a0 a1 : Int} (hown : OwnF B W v n xs) (c0 : W.cell? ⟨g, 0, none⟩ = some (.int .i64 a0)) (c1 : W.cell? ⟨g, 1, none⟩ = some (.int .i64 a1)) (hb : B ≤ W.heap.size) (hs : a.eval s = v) (hx : a.eval x = .slice (some ⟨g, 0, none⟩) 1 c) (hlen : n + 1 ≤ 4194304)
    (hK : ∀ v' w', OwnF B w' v' (n + 1) (xs ++ [a0, a1]) → W.grownBy w' v.ownBlock → wpList Tryd.prog ops Q rest (a.put o.dst v') w') : wpList Tryd.prog ops Q (o :: rest) a W := by
  obtain ⟨i0, hi, hz0, hz1, hz2⟩ := info_parts info_pt
  refine wpList_append_own _ hgd s x 28 ho B 23 i0 (.agg #[.int .i64 0, .int .i64 0]) 2 16 Tryd.underlying28 hi hz0 hz1 hz2 rfl (by decide) v _ _ hs hown ⟨g, 0, none⟩ 1 c ([a0, a1].map (Value.int .i64)) hx rfl ?_ ?_ ?_ ?_ hb ?_
  · intro j u hj
    match j, hj with
    | 0, hj => simp at hj; subst hj; simpa [Addr.add] using c0
    | 1, hj => simp at hj; subst hj; simpa [Addr.add] using c1
  · intro u hu; simp only [List.mem_map] at hu; obtain ⟨y, _, rfl⟩ := hu; rfl
  · unfold maxLen; omega
  · omega
  · intro v' w' h1 h2 _
    refine hK v' w' ?_ h2
    show w'.ownsRow B 23 2 v' (n + 1) ((xs ++ [a0, a1]).map (Value.int .i64))
    rw [List.map_append]; exact h1
/-- A number of a point. -/
def Cn (x : Int) : Prop := -1000000 ≤ x ∧ x ≤ 1000000
theorem bk_ok {a b x y : Int} (h : isFr a b = true) (hx : Cn x) (hy : Cn y) : Bn a ∧ Bn (mateI a b).1 ∧ Bn b ∧ Bn (mateI a b).2 ∧ Bn x ∧ Bn y ∧ Tn (a * x + (mateI a b).1 * y) ∧ Tn (b * x + (mateI a b).2 * y) := by
  have hp := isFr_pt h
  have hm := (mateI_ok hp (isFr_gcd h)).2
  have m1 := isPt_c1 (x := (mateI a b).1) (y := (mateI a b).2) hm
  have m2 := isPt_c2 (x := (mateI a b).1) (y := (mateI a b).2) hm
  have a1 := isPt_c1 hp
  have a2 := isPt_c2 hp
  obtain ⟨p1, p2⟩ := mul_bd (a := a) (b := x) a1.1 a1.2 hx.1 hx.2
  obtain ⟨p3, p4⟩ := mul_bd (a := (mateI a b).1) (b := y) m1.1 m1.2 hy.1 hy.2
  obtain ⟨p5, p6⟩ := mul_bd (a := b) (b := x) a2.1 a2.2 hx.1 hx.2
  obtain ⟨p7, p8⟩ := mul_bd (a := (mateI a b).2) (b := y) m2.1 m2.2 hy.1 hy.2
  unfold Cn at hx hy
  unfold Tn Bn
  omega
def Qn (x y : Int) : Prop := y = 0 ∨ (isFr x y = true ∧ 1 ≤ y)
theorem nx_ok {x y : Int} (hF : isFr x y = true) (h1 : 1 ≤ y) : Qn (nxX x y) (nxY x y) ∧ nxY x y < y ∧ 0 ≤ nxY x y ∧ Cn (nxX x y) ∧ Cn (nxY x y) := by
  by_cases hy : y = 1
  · subst hy
    rw [(nx_one x).1, (nx_one x).2]
    exact ⟨.inl rfl, by decide, by decide, ⟨by decide, by decide⟩, ⟨by decide, by decide⟩⟩
  · obtain ⟨k1, k2, k3⟩ := nx_fr hF (by omega)
    have c1 := isPt_c1 (isFr_pt k1)
    have c2 := isPt_c2 (isFr_pt k1)
    exact ⟨.inr ⟨k1, k2⟩, k3, by omega, ⟨c1.1, c1.2⟩, ⟨c2.1, c2.2⟩⟩
theorem iw_len (T : Int → Int → Int × Int) : ∀ (f : Nat) (x y : Int), (iw T f x y).length ≤ f
  | 0, _, _ => by simp [iw]
  | f + 1, x, y => by
    unfold iw
    split
    · simp
    · simp; exact iw_len T f _ _
end Go.Proofs.YtohnmogejidpdabDoor
