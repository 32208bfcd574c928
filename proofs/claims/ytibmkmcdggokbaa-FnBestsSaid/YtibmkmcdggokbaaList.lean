/-
  Lists of int64 that a call makes: what they hold, and chapter 1's expansions as such lists (own work).
-/
import Derived.Test.YtibmkmcdggokbaaFloor
import Derived.Deep.AppendLies
namespace Go.Proofs.Ytibmkmcdggokbaa
open Go.ChangeShapes Go.WideShapes Go.ChangeAt Go.RowKit
set_option linter.unusedVariables false
set_option linter.unusedSimpArgs false

theorem own_below {w w' : World} {base : Nat} {e : TypeId} {size : Nat} {v : Value} {n : Nat} {xs : List Value} (h : w.ownsRow base e size v n xs) (hb : Below w.heap.size w w') : w'.ownsRow base e size v n xs := by
  refine h.kept (row := none) ⟨hb.os, hb.tape, hb.output, hb.size, fun k hk _ => hb.block k hk⟩ ?_
  cases v.ownBlock <;> simp
/-- A list of int64 that lies in blocks from B on. -/
def OwnI (B : Nat) (w : World) (v : Value) (xs : List Int) : Prop := w.ownsRow B 2 1 v xs.length (xs.map (Value.int .i64))
theorem OwnI.below {B : Nat} {w w' : World} {v : Value} {xs : List Int} (h : OwnI B w v xs) (hb : Below w.heap.size w w') : OwnI B w' v xs := own_below h hb
/-- A call returned such a list, and left all that was there. -/
def RetI (w : World) (xs : List Int) (e : Ending) (w' : World) : Prop := ∃ v, e = .returned v ∧ OwnI w.heap.size w' v xs ∧ Below w.heap.size w w'
theorem info_int : (Try.prog.info? 2).map (fun i => (i.zero, i.size, i.bytes)) = some (some (.int .i64 0), 1, 8) := by kernel_rfl
theorem below_grown {a w w' : World} {B : Nat} {v : Value} {xs : List Int} (h : Below a.heap.size a w) (hown : OwnI a.heap.size w v xs) (hg : w.grownBy w' v.ownBlock) : Below a.heap.size a w' :=
  h.grown hg h.size (fun k hk => (hown.lt k hk).1)

set_option maxHeartbeats 800000 in
theorem expansionOf_any (p q : Int) (w : World) (hq : 1 ≤ q) (hq2 : q ≤ 1000000) (hp1 : -1000000 ≤ p) (hp2 : p ≤ 1000000) :
    Calls Try.prog 45 #[.int .i64 p, .int .i64 q] w (RetI w (expI p q)) := by
  obtain ⟨i0, hi, hz0, hz1, hz2⟩ := info_parts info_int
  have HL := Lib.hid (expI_len p q)
  obtain ⟨full, hfull⟩ : ∃ l, expI p q = l := ⟨_, rfl⟩
  rw [hfull] at HL ⊢
  have HF := Lib.hid hfull
  clear hfull
  go_enter Try.func45, Try.ntmps45
  go_wp2
  go_loopw [0, 1, 5] (fun x y v wr => ∃ (a b : Int) (xs : List Int), x = .int .i64 a ∧ y = .int .i64 b ∧ -1000000 ≤ a ∧ a ≤ 1000000 ∧ 0 ≤ b ∧ b ≤ 1000000 ∧ xs ++ expI a b = full ∧ OwnI w.heap.size wr v xs ∧ Below w.heap.size w wr) (fun _ y _ _ => (intOf y).toNat)
  case atStart => exact ⟨p, q, [], rfl, rfl, hp1, hp2, by omega, hq2, HF.out, World.ownsRow_nil _ _ _ _, Below.refl _ _⟩
  case round =>
    obtain ⟨a, b, xs, rfl, rfl, ha1, ha2, hb1, hb2, hx, hown, hbel⟩ := hrel
    have HX := Lib.hid hx
    have HO := Lib.hid hown
    clear hx hown
    by_cases hz : b = 0
    · subst hz
      go_wp2
      go_ret
      refine ⟨_, rfl, ?_, hbel⟩
      have := HX.out
      rw [expI_zero, List.append_nil] at this
      rw [← this]; exact HO.out
    · have hb : 1 ≤ b := by omega
      have hzb : (b == 0) = false := by simpa using hz
      have HS := Lib.hid (expI_step a b hb)
      obtain ⟨f1, f2, f3, f4⟩ := floor_bd hb ha1 ha2
      have HN : Hid (xs.length ≤ 1000001) := by
        have h1 := HL.out
        rw [← HX.out, List.length_append] at h1
        show xs.length ≤ 1000001
        omega
      go_wp2_with (first | (go_at_call 50; refine (divideDown_any _ _ _ hb (by omega) (by omega) (by omega)).mono ?_; rintro e wn ⟨rfl, hbn⟩) | (at_builtin; refine wpList_append_own _ rfl _ _ 57 rfl w.heap.size 2 i0 (.int .i64 0) 1 8 Try.underlying57 hi hz0 hz1 hz2 rfl (by decide) _ _ _ rfl ((HO.out.below hbn).alloc _) ⟨wn.heap.size, 0, none⟩ 1 1 [.int .i64 (a / b)] rfl rfl ?c1 ?c2 ?c3 ?c4 ?c5 ?_))
      case c1 =>
        intro j u hj
        match j, hj with
        | 0, hj => simp at hj; subst hj; simp [Addr.add]
      case c2 => intro u hu; simp at hu; subst hu; rfl
      case c3 => have := HN.out; unfold maxLen; omega
      case c4 => have := HN.out; omega
      case c5 => have h1 := hbel.size; have h2 := hbn.size; simp only [World.size_alloc]; omega
      · intro v' w1 hown' hgrow _
        have hb3 : Below w.heap.size w w1 := by
          refine Below.grown (((below_after hbn hbel)).alloc ?_ _) hgrow ?_ (fun k hk => (HO.out.lt k hk).1)
          · have h1 := hbel.size; have h2 := hbn.size; omega
          · have h1 := hbel.size; have h2 := hbn.size; simp only [World.size_alloc]; omega
        have HO2 : Hid (OwnI w.heap.size w1 v' (xs ++ [a / b])) := by
          show w1.ownsRow w.heap.size 2 1 v' (xs ++ [a / b]).length ((xs ++ [a / b]).map (Value.int .i64))
          rw [List.length_append, List.map_append]; exact hown'
        clear hown' hgrow
        have HX2 : Hid ((xs ++ [a / b]) ++ expI b (a % b) = full) := by
          show (xs ++ [a / b]) ++ expI b (a % b) = full
          rw [← HX.out, HS.out]; simp
        clear hbn hbel
        go_wp2
        go_roundw
        case rel => exact ⟨b, a % b, xs ++ [a / b], rfl, rfl, by omega, by omega, f3, by omega, HX2.out, HO2.out, hb3⟩
        case measure => simp only [intOf]; omega
set_option maxHeartbeats 800000 in
theorem l01Expand_any (p q : Int) (w : World) (hq : 1 ≤ q) (hq2 : q ≤ 1000000) (hp1 : -1000000 ≤ p) (hp2 : p ≤ 1000000) :
    Calls Try.prog 43 #[.int .i64 p, .int .i64 q] w (RetI w (expI p q)) := by
  obtain ⟨i0, hi, hz0, hz1, hz2⟩ := info_parts info_int
  have HL := Lib.hid (expI_len p q)
  obtain ⟨full, hfull⟩ : ∃ l, expI p q = l := ⟨_, rfl⟩
  rw [hfull] at HL ⊢
  have HF := Lib.hid hfull
  clear hfull
  go_enter Try.func43, Try.ntmps43
  go_wp2
  go_loopw [0, 1, 5] (fun x y v wr => ∃ (a b : Int) (xs : List Int), x = .int .i64 a ∧ y = .int .i64 b ∧ -1000000 ≤ a ∧ a ≤ 1000000 ∧ 0 ≤ b ∧ b ≤ 1000000 ∧ xs ++ expI a b = full ∧ OwnI w.heap.size wr v xs ∧ Below w.heap.size w wr) (fun _ y _ _ => (intOf y).toNat)
  case atStart => exact ⟨p, q, [], rfl, rfl, hp1, hp2, by omega, hq2, HF.out, World.ownsRow_made w #[] 0 (Nat.le_refl _) (Nat.zero_le _) rfl, (Below.refl _ _).alloc (Nat.le_refl _) _⟩
  case round =>
    obtain ⟨a, b, xs, rfl, rfl, ha1, ha2, hb1, hb2, hx, hown, hbel⟩ := hrel
    have HX := Lib.hid hx
    have HO := Lib.hid hown
    clear hx hown
    by_cases hz : b = 0
    · subst hz
      go_wp2
      go_ret
      refine ⟨_, rfl, ?_, hbel⟩
      have := HX.out
      rw [expI_zero, List.append_nil] at this
      rw [← this]; exact HO.out
    · have hb : 1 ≤ b := by omega
      have hzb : (b == 0) = false := by simpa using hz
      have HS := Lib.hid (expI_step a b hb)
      obtain ⟨f1, f2, f3, f4⟩ := floor_bd hb ha1 ha2
      have HM : Hid (a - a / b * b = a % b) := by
        show a - a / b * b = a % b
        have := Int.emod_def a b
        rw [Int.mul_comm] at this; omega
      have hm := HM.out
      have hm1 : a / b * b ≤ 2000000 := by omega
      have hm2 : -2000000 ≤ a / b * b := by omega
      clear hm
      have HN : Hid (xs.length ≤ 1000001) := by
        have h1 := HL.out
        rw [← HX.out, List.length_append] at h1
        show xs.length ≤ 1000001
        omega
      go_wp2_with (first | (go_at_call 53; refine (l01Floor_any _ _ _ hb hb2 ha1 ha2).mono ?_; rintro e wn ⟨rfl, rfl⟩) | (at_builtin; refine wpList_append_own _ rfl _ _ 57 rfl w.heap.size 2 i0 (.int .i64 0) 1 8 Try.underlying57 hi hz0 hz1 hz2 rfl (by decide) _ _ _ rfl (HO.out.alloc _) ⟨wr.heap.size, 0, none⟩ 1 1 [.int .i64 (a / b)] rfl rfl ?c1 ?c2 ?c3 ?c4 ?c5 ?_))
      case c1 =>
        intro j u hj
        match j, hj with
        | 0, hj => simp at hj; subst hj; simp [Addr.add]
      case c2 => intro u hu; simp at hu; subst hu; rfl
      case c3 => have := HN.out; unfold maxLen; omega
      case c4 => have := HN.out; omega
      case c5 => have h1 := hbel.size; simp only [World.size_alloc]; omega
      · intro v' w1 hown' hgrow _
        have hb3 : Below w.heap.size w w1 := by
          refine Below.grown (hbel.alloc ?_ _) hgrow ?_ (fun k hk => (HO.out.lt k hk).1)
          · have h1 := hbel.size; omega
          · have h1 := hbel.size; simp only [World.size_alloc]; omega
        have HO2 : Hid (OwnI w.heap.size w1 v' (xs ++ [a / b])) := by
          show w1.ownsRow w.heap.size 2 1 v' (xs ++ [a / b]).length ((xs ++ [a / b]).map (Value.int .i64))
          rw [List.length_append, List.map_append]; exact hown'
        clear hown' hgrow
        have HX2 : Hid ((xs ++ [a / b]) ++ expI b (a % b) = full) := by
          show (xs ++ [a / b]) ++ expI b (a % b) = full
          rw [← HX.out, HS.out]; simp
        clear hbel
        go_wp2
        go_roundw
        case rel => exact ⟨b, a % b, xs ++ [a / b], rfl, by rw [← HM.out], by omega, by omega, f3, by omega, HX2.out, HO2.out, hb3⟩
        case measure => simp only [intOf]; rw [HM.out]; omega
end Go.Proofs.Ytibmkmcdggokbaa
