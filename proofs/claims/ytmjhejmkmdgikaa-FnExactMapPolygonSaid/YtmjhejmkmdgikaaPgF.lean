/-
  Chapter 9's sums over the sides of a polygon, in the program (own work).
-/
import Derived.Test.YtmjhejmkmdgikaaPgA
import Derived.Test.YtmjhejmkmdgikaaAnT
import Derived.Test.YtmjhejmkmdgikaaPoD
namespace Go.Proofs.Ytmjhejmkmdgikaa
open Go.ChangeShapes Go.WideShapes Go.ChangeAt Go.RowKit Go.Shelf
set_option linter.unusedVariables false
set_option maxRecDepth 100000
set_option linter.unusedSimpArgs false
attribute [local go_sem] Oper.semAt_some

theorem keepsOthers_of_below {W W' : World} (h : Below W.heap.size W W') : KeepsOthers W W' := ⟨h.size, fun k o hk _ => (h.block k (Array.getElem?_eq_some_iff.1 hk).1).trans hk⟩
def inC (ps : List (Int × Int)) : Bool := ps.all fun p => isS p.1 p.2
theorem inC_pl {ps : List (Int × Int)} (h : inC ps = true) (h0 : 0 < ps.length) (k : Nat) : Sml (pl ps k).1 ∧ Sml (pl ps k).2 :=
  isS_iff.1 (List.all_eq_true.1 h _ (pl_mem h0 k))
theorem inC_pt {ps : List (Int × Int)} (h : inC ps = true) (h0 : 0 < ps.length) (k : Nat) : isPt (pl ps k) = true := (inC_pl h h0 k).1.pt (inC_pl h h0 k).2
/-- A box of one point. -/
def Pc (W : World) (A : Nat) (p : Int × Int) : Prop := W.heap[A]? = some (.cells #[.int .i64 p.1, .int .i64 p.2] 32 (0, 0))
theorem Pc.lt {W : World} {A : Nat} {p : Int × Int} (h : Pc W A p) : A < W.heap.size := (Array.getElem?_eq_some_iff.1 h).1
theorem Pc.c0 {W : World} {A : Nat} {p : Int × Int} (h : Pc W A p) : W.cell? ⟨A, 0, none⟩ = some (.int .i64 p.1) := by simp [World.cell?, show W.heap[A]? = _ from h]
theorem Pc.c1 {W : World} {A : Nat} {p : Int × Int} (h : Pc W A p) : W.cell? ⟨A, 1, none⟩ = some (.int .i64 p.2) := by simp [World.cell?, show W.heap[A]? = _ from h]
theorem Pc.below {W W' : World} {A : Nat} {p : Int × Int} (h : Pc W A p) (hb : Below W.heap.size W W') : Pc W' A p := (hb.block A h.lt).trans h
theorem Pc.own {W W' : World} {row : Option Nat} {A : Nat} {p : Int × Int} (h : Pc W A p) (hg : W.grownBy W' row) (hr : ∀ r, row = some r → ∃ o : Obj, W.heap[r]? = some o ∧ o.isCells = false) : Pc W' A p := (grownBy_keeps_cells hg hr h rfl).trans h
theorem boxed_below {W W' : World} {B : Nat} {t : TypeId} {v : Value} (h : Boxed W B t v) (hb : Below W.heap.size W W') : Boxed W' B t v := (hb.block B h.lt).trans h
theorem boxed_own1 {W W' : World} {row : Option Nat} {B : Nat} {t : TypeId} {v : Value} (h : Boxed W B t v) (hg : W.grownBy W' row) (hr : ∀ r, row = some r → ∃ o : Obj, W.heap[r]? = some o ∧ o.isCells = false) : Boxed W' B t v := (grownBy_keeps_cells hg hr h rfl).trans h
def sL {m : Nat} (f : Nat → Int) (pre : List (Fin m)) : Int := (pre.map fun x => f x.val).sum
theorem sL_snoc {m : Nat} (f : Nat → Int) (pre : List (Fin m)) (x : Fin m) : sL f (pre ++ [x]) = sL f pre + f x.val := by simp [sL]
theorem sL_bd {m : Nat} {f : Nat → Int} {A : Int} (h : ∀ k, -A ≤ f k ∧ f k ≤ A) : ∀ pre : List (Fin m), -(A * pre.length) ≤ sL f pre ∧ sL f pre ≤ A * pre.length
  | [] => by simp [sL]
  | x :: pre => by
    have a := sL_bd h pre
    have b := h x.val
    have e : sL f (x :: pre) = f x.val + sL f pre := by simp [sL]
    rw [e, List.length_cons, Int.natCast_add, Int.mul_add]
    have := Int.mul_one A
    simp only [Int.natCast_one]
    omega
theorem sum_range (f : Nat → Int) : ∀ m, ((List.range m).map f).sum = sg f m
  | 0 => rfl
  | m + 1 => by rw [List.range_succ, List.map_append, List.sum_append, sum_range f m]; simp [sg]
theorem sL_all {m : Nat} (f : Nat → Int) (ys : List (Fin m)) (hy : ys.map (·.val) = List.range m) : sL f ys = sg f m := by
  rw [← sum_range, ← hy, List.map_map]; rfl
def dvL (ps : List (Int × Int)) (k : Nat) : Int := dv (pl ps k) (pl ps (k + 1))
def gcL (ps : List (Int × Int)) (k : Nat) : Int := (Int.gcd (eg (pl ps) k).1 (eg (pl ps) k).2 : Int)
def areaL (ps : List (Int × Int)) : Int := sg (dvL ps) ps.length
def bordL (ps : List (Int × Int)) : Int := sg (gcL ps) ps.length
theorem dvL_bd {ps : List (Int × Int)} (h : inC ps = true) (h0 : 0 < ps.length) (k : Nat) : -2000000 ≤ dvL ps k ∧ dvL ps k ≤ 2000000 := by
  obtain ⟨a, b⟩ := inC_pl h h0 k
  obtain ⟨c, d⟩ := inC_pl h h0 (k + 1)
  unfold Sml at a b c d
  have m1 := mul_bd (A := 1000) (B := 1000) a.1 a.2 d.1 d.2
  have m2 := mul_bd (A := 1000) (B := 1000) b.1 b.2 c.1 c.2
  unfold dvL dv
  omega
theorem gcd_le {a b M : Int} (ha : -M ≤ a ∧ a ≤ M) (hb : -M ≤ b ∧ b ≤ M) : 0 ≤ (Int.gcd a b : Int) ∧ (Int.gcd a b : Int) ≤ M := by
  by_cases h : a = 0
  · subst h
    rw [Int.gcd_zero_left]; omega
  · have h1 : Int.gcd a b ∣ a.natAbs := Int.gcd_dvd_natAbs_left a b
    have h2 := Nat.le_of_dvd (by omega) h1
    omega
theorem gcL_bd {ps : List (Int × Int)} (h : inC ps = true) (h0 : 0 < ps.length) (k : Nat) : 0 ≤ gcL ps k ∧ gcL ps k ≤ 2000 := by
  obtain ⟨a, b⟩ := inC_pl h h0 k
  obtain ⟨c, d⟩ := inC_pl h h0 (k + 1)
  unfold Sml at a b c d
  unfold gcL eg sbv
  exact gcd_le (M := 2000) ⟨by simp only; omega, by simp only; omega⟩ ⟨by simp only; omega, by simp only; omega⟩
theorem gcL_bd2 {ps : List (Int × Int)} (h : inC ps = true) (h0 : 0 < ps.length) (k : Nat) : -2000000 ≤ gcL ps k ∧ gcL ps k ≤ 2000000 := by have := gcL_bd h h0 k; omega
end Go.Proofs.Ytmjhejmkmdgikaa
