/-
  The model's source of draws: a block of three cells (the code, the place in it, the hash); what a draw returns and that it writes to this block alone (own work).
-/
import Derived.Test.YtibmkmcdggokbaaPts
import Derived.RangeFuncBox
import Derived.Maps.AppendAt
import Derived.Laws.BitsLemmas
import Derived.Laws.Bits64
namespace Go.Proofs.Ytibmkmcdggokbaa
open Go.ChangeShapes Go.WideShapes Go.ChangeAt Go.RowKit
set_option linter.unusedVariables false
set_option linter.unusedSimpArgs false
set_option maxRecDepth 100000

/-- The bytes of the code can be read, below block s. -/
def Byt (w : World) (s : Nat) (a : Option Addr) (n : Nat) : Prop := 0 < n → ∃ b off, a = some ⟨b, off, none⟩ ∧ b < s ∧ ∀ j, j < n → ∃ z : Int, 0 ≤ z ∧ z < 256 ∧ w.cell? ⟨b, off + j, none⟩ = some (.int .u8 z)
/-- The source's block. -/
def Sr (w : World) (s : Nat) (a : Option Addr) (n cap : Nat) : Prop := n ≤ 9223372036854775807 ∧ Byt w s a n ∧
  ∃ (p : Nat) (h : Int), p ≤ n ∧ w.heap[s]? = some (.cells #[.slice a n cap, .int .i64 p, .int .u64 h] 66 (0, 0))
theorem Sr.lt {w : World} {s : Nat} {a : Option Addr} {n cap : Nat} (h : Sr w s a n cap) : s < w.heap.size := by
  obtain ⟨_, _, p, h, _, hh⟩ := h
  exact (Array.getElem?_eq_some_iff.1 hh).1
theorem Byt.kept {w w' : World} {s : Nat} {a : Option Addr} {n : Nat} {row : Option Nat} (h : Byt w s a n) (hg : w.grownBy w' row) (hs : s ≤ w.heap.size) (hr : ∀ k, row = some k → s ≤ k) : Byt w' s a n := by
  intro hn
  obtain ⟨b, off, rfl, hb, hc⟩ := h hn
  refine ⟨b, off, rfl, hb, fun j hj => ?_⟩
  obtain ⟨z, h0, h1, e⟩ := hc j hj
  refine ⟨z, h0, h1, ?_⟩
  have hk := hg.block b (by omega) (fun e => by have := hr b e.symm; omega)
  rw [← e]
  simp [World.cell?, hk]
theorem Sr.kept {w w' : World} {s : Nat} {a : Option Addr} {n cap : Nat} {row : Option Nat} (h : Sr w s a n cap) (hg : w.grownBy w' row) (hr : ∀ k, row = some k → s < k) : Sr w' s a n cap := by
  have hl := h.lt
  obtain ⟨hn, hb, p, x, hp, hh⟩ := h
  exact ⟨hn, hb.kept hg (by omega) (fun k e => by have := hr k e; omega), p, x, hp, (hg.block s hl (fun e => by have := hr s e.symm; omega)).trans hh⟩
/-- What a draw leaves. -/
def Drew (s : Nat) (a : Option Addr) (n cap : Nat) (w w' : World) : Prop := w.grownBy w' (some s) ∧ Sr w' s a n cap

theorem mask30 (y : Int) (h0 : 0 ≤ y) (h1 : y < 18446744073709551616) : bits .and .u64 (y / 2147483648) 1073741823 = y / 2147483648 % 1073741824 := by
  have h := bits_mask .u64 63 (by decide) (fun n a b => by rw [IntKind.wrap_u64]; omega) 30 (by decide) (y / 2147483648) (by omega) (by omega)
  have e : ((2 : Int) ^ 30 - 1) = 1073741823 := by decide
  have e2 : ((2 : Int) ^ 30) = 1073741824 := by decide
  rw [e, e2] at h
  exact h
theorem u64_in (n : Int) : 0 ≤ IntKind.u64.wrap n ∧ IntKind.u64.wrap n < 18446744073709551616 := by rw [IntKind.wrap_u64]; omega
theorem grown_drewN {a w : World} {row : Option Nat} (h : a.grownBy w row) (n : Nat) : a.grownBy (w.drewN n) row := ⟨h.os, h.tape, h.output, h.size, h.block⟩
theorem grown_setB {a w : World} {s : Nat} (h : a.grownBy w (some s)) (i : Nat) (v : Value) : a.grownBy (w.setCell ⟨s, i, none⟩ v) (some s) :=
  h.trans ⟨rfl, rfl, rfl, (KeepsWalks.setCell w _ v).size, fun k _ hk => Below.heap_setCell _ _ _ k (fun e => hk (by rw [e]))⟩
theorem sr_set2 {w : World} {s : Nat} {c v : Value} {x : Int} {t : TypeId} (h : w.heap[s]? = some (.cells #[c, v, .int .u64 x] t (0, 0))) (y : Int) :
    (w.setCell ⟨s, 2, none⟩ (.int .u64 y)).heap[s]? = some (.cells #[c, v, .int .u64 y] t (0, 0)) := by
  obtain ⟨hlt, hk⟩ := Array.getElem?_eq_some_iff.1 h
  show (w.heap.modify s _)[s]? = _
  rw [Array.getElem?_eq_getElem (by rw [Array.size_modify]; exact hlt), Array.getElem_modify_self, hk]
  rfl
theorem sr_set1 {w : World} {s : Nat} {c v u : Value} {t : TypeId} (h : w.heap[s]? = some (.cells #[c, v, u] t (0, 0))) (v' : Value) :
    (w.setCell ⟨s, 1, none⟩ v').heap[s]? = some (.cells #[c, v', u] t (0, 0)) := by
  obtain ⟨hlt, hk⟩ := Array.getElem?_eq_some_iff.1 h
  show (w.heap.modify s _)[s]? = _
  rw [Array.getElem?_eq_getElem (by rw [Array.size_modify]; exact hlt), Array.getElem_modify_self, hk]
  rfl
theorem l01Next_any (s : Nat) (a : Option Addr) (n cap : Nat) (m : Int) (w : World) (h : Sr w s a n cap) :
    Calls Try.prog 29 #[.pointer (some ⟨s, 0, none⟩), .int .i64 m] w fun e w' => ∃ v : Int, e = .returned (.int .i64 v) ∧ (m < 1 → v = 0) ∧ (1 ≤ m → 0 ≤ v ∧ v < m) ∧ Drew s a n cap w w' := by
  by_cases hm : m < 1
  · have HS := Lib.hid h
    clear h
    go_enter Try.func29, Try.ntmps29
    go_wp2
    go_ret
    exact ⟨0, rfl, fun _ => rfl, fun h => by omega, World.grownBy.refl _ _, HS.out⟩
  · obtain ⟨hn, hby, p, x, hp, hh⟩ := h
    have hl : s < w.heap.size := (Array.getElem?_eq_some_iff.1 hh).1
    have c0 : w.cell? ⟨s, 0, none⟩ = some (.slice a n cap) := by simp [World.cell?, hh]
    have c1 : w.cell? ⟨s, 1, none⟩ = some (.int .i64 p) := by simp [World.cell?, hh]
    have c2 : w.cell? ⟨s, 2, none⟩ = some (.int .u64 x) := by simp [World.cell?, hh]
    have f1 : w.frozen? ⟨s, 1, none⟩ = false := by simp [World.frozen?, hh]
    have f2 : w.frozen? ⟨s, 2, none⟩ = false := by simp [World.frozen?, hh]
    have HBY := Lib.hid hby
    have HH := Lib.hid hh
    clear hby hh
    go_enter Try.func29, Try.ntmps29
    go_wp2
    obtain ⟨y, hy⟩ : ∃ y, IntKind.u64.wrap (IntKind.u64.wrap (x * 6364136223846793005) + 1442695040888963407) = y := ⟨_, rfl⟩
    have hyb := u64_in (IntKind.u64.wrap (x * 6364136223846793005) + 1442695040888963407)
    rw [hy] at hyb
    have hz := mask30 y hyb.1 hyb.2
    obtain ⟨z, hze⟩ : ∃ z, y / 2147483648 % 1073741824 = z := ⟨_, rfl⟩
    have hzb : 0 ≤ z ∧ z < 1073741824 := by omega
    have hzw : wrap64 z = z := IntWalk.wrap64_in z (by omega)
    rw [hze] at hz
    simp only [hy, hz, hzw]
    clear hy hz hze hzw
    go_quiet (fail)
    by_cases hpn : p < n
    · obtain ⟨b, off, rfl, hb, hc⟩ := HBY.out (by omega)
      obtain ⟨q, hq0, hq1, hq⟩ := hc p hpn
      have e1 : w.cell? ⟨b, off + p, none⟩ = some (.int .u8 q) := hq
      have hbs : b ≠ s := by omega
      have hw1 : wrap64 (p + 1) = p + 1 := IntWalk.wrap64_in _ (by omega)
      have hw2 : wrap64 q = q := IntWalk.wrap64_in _ (by omega)
      have hw3 : wrap64 (z + q) = z + q := IntWalk.wrap64_in _ (by omega)
      clear hc hq
      go_wp2
      go_quiet (fail)
      go_wp2
      go_ret
      have hg : ∀ n1, w.grownBy (((w.setCell ⟨s, 2, none⟩ (.int .u64 y)).drewN n1).setCell ⟨s, 1, none⟩ (.int .i64 (p + 1))) (some s) := fun n1 => grown_setB (grown_drewN (grown_setB (World.grownBy.refl _ _) _ _) _) _ _
      refine ⟨(z + q) % m, rfl, fun h => by omega, fun _ => ⟨Int.emod_nonneg _ (by omega), Int.emod_lt_of_pos _ (by omega)⟩, hg _, hn, HBY.out.kept (hg _) (by omega) (fun k e => by cases e; omega), p + 1, y, by omega, ?_⟩
      exact sr_set1 (w := (w.setCell ⟨s, 2, none⟩ (.int .u64 y)).drewN _) (sr_set2 HH.out y) (.int .i64 (p + 1))
    · go_wp2
      go_ret
      have hg : ∀ n1, w.grownBy (((w.setCell ⟨s, 2, none⟩ (.int .u64 y)).drewN n1)) (some s) := fun n1 => grown_drewN (grown_setB (World.grownBy.refl _ _) _ _) _
      refine ⟨z % m, rfl, fun h => by omega, fun _ => ⟨Int.emod_nonneg _ (by omega), Int.emod_lt_of_pos _ (by omega)⟩, hg _, hn, HBY.out.kept (hg _) (by omega) (fun k e => by cases e; omega), p, y, hp, ?_⟩
      exact sr_set2 HH.out y
theorem kept_cell {w w' : World} {row : Option Nat} {b : Nat} (hg : w.grownBy w' row) (hb : b < w.heap.size) (hne : some b ≠ row) (o : Nat) : w'.cell? ⟨b, o, none⟩ = w.cell? ⟨b, o, none⟩ ∧ w'.frozen? ⟨b, o, none⟩ = w.frozen? ⟨b, o, none⟩ := by
  have hk := hg.block b hb hne
  simp [World.cell?, World.frozen?, hk]
theorem sr_alloc {w : World} {s : Nat} {a : Option Addr} {n cap : Nat} (h : Sr w s a n cap) (o : Obj) : Sr (w.alloc o) s a n cap := h.kept (World.grownBy_alloc w o none) (fun k e => by cases e)
theorem sr_drewN {w : World} {s : Nat} {a : Option Addr} {n cap : Nat} (h : Sr w s a n cap) (k : Nat) : Sr (w.drewN k) s a n cap := h.kept (grown_drewN (World.grownBy.refl w none) k) (fun k e => by cases e)
theorem sr_set {w : World} {s : Nat} {a : Option Addr} {n cap : Nat} (h : Sr w s a n cap) (b i : Nat) (v : Value) (hb : s < b) : Sr (w.setCell ⟨b, i, none⟩ v) s a n cap := h.kept (grown_setB (World.grownBy.refl w (some b)) i v) (fun k e => by cases e; exact hb)
theorem grown_new {a w : World} {row : Option Nat} (h : a.grownBy w row) (o : Obj) : a.grownBy (w.alloc o) row := h.trans (World.grownBy_alloc w o row)
theorem grown_setN {a w : World} {row : Option Nat} (h : a.grownBy w row) {b : Nat} (hb : a.heap.size ≤ b) (i : Nat) (v : Value) : a.grownBy (w.setCell ⟨b, i, none⟩ v) row :=
  ⟨h.os, h.tape, h.output, Nat.le_trans h.size (KeepsWalks.setCell w _ v).size, fun k hk hr => (Below.heap_setCell _ _ _ k (fun e => by simp at e; omega)).trans (h.block k hk hr)⟩
theorem row_new (w : World) (zs : List Int) (t : TypeId) (j : Nat) (hj : j < zs.length) : (w.alloc (.cells (zs.map (Value.int .i64)).toArray t)).cell? ⟨w.heap.size, j, none⟩ = some (.int .i64 (zs.getD j 0)) := by
  have h := World.alloc_heap_new w (.cells (zs.map (Value.int .i64)).toArray t)
  unfold World.cell?
  simp only [h]
  simp [List.getD, hj]
theorem l01Pick_any (s g cp : Nat) (a : Option Addr) (n cap : Nat) (zs : List Int) (w : World) (h : Sr w s a n cap) (hg : g < w.heap.size) (hgs : g ≠ s) (hl : 0 < zs.length) (hm : zs.length ≤ 1000)
    (hc : ∀ j, j < zs.length → w.cell? ⟨g, j, none⟩ = some (.int .i64 (zs.getD j 0))) :
    Calls Try.prog 34 #[.pointer (some ⟨s, 0, none⟩), .slice (some ⟨g, 0, none⟩) zs.length cp] w fun e w' => ∃ v : Int, v ∈ zs ∧ e = .returned (.int .i64 v) ∧ Drew s a n cap w w' := by
  obtain ⟨len, hlen⟩ : ∃ len, zs.length = len := ⟨_, rfl⟩
  have HC := Lib.hid hc
  have HL := Lib.hid hlen
  rw [hlen] at hl hm ⊢
  have HN := Lib.hid (l01Next_any s a n cap len w h)
  clear hlen hc h
  go_enter Try.func34, Try.ntmps34
  go_wp2_with fail
  go_at_call 29
  refine HN.out.mono ?_
  rintro e w1 ⟨v, rfl, -, hv, hg1, hs1⟩
  obtain ⟨hv1, hv2⟩ := hv (by omega)
  obtain ⟨k, rfl⟩ : ∃ k : Nat, v = k := ⟨v.toNat, by omega⟩
  have hk : k < len := by omega
  have c1 : w1.cell? ⟨g, k, none⟩ = some (.int .i64 (zs.getD k 0)) := ((kept_cell hg1 hg (fun e => hgs (by cases e; rfl)) k).1).trans (HC.out k (by rw [HL.out]; exact hk))
  obtain ⟨z, hz⟩ : ∃ z, zs.getD k 0 = z := ⟨_, rfl⟩
  rw [hz] at c1
  have HZ := Lib.hid hz
  have HD := Lib.hid (show Drew s a n cap w w1 from ⟨hg1, hs1⟩)
  clear hz hg1 hs1
  go_wp2
  go_ret
  refine ⟨z, ?_, rfl, HD.out⟩
  rw [← HZ.out]
  have hk2 : k < zs.length := by rw [HL.out]; exact hk
  simp [List.getD, hk2]
def Two (w : World) (b : Nat) (c0 c1 : Value) : Prop := w.cell? ⟨b, 0, none⟩ = some c0 ∧ w.cell? ⟨b, 1, none⟩ = some c1 ∧ w.frozen? ⟨b, 0, none⟩ = false ∧ w.frozen? ⟨b, 1, none⟩ = false ∧ b < w.heap.size
theorem two_new (w : World) (c0 c1 : Value) (t : TypeId) : Two (w.alloc (.cells #[c0, c1] t)) w.heap.size c0 c1 := by
  have h := World.alloc_heap_new w (.cells #[c0, c1] t)
  unfold Two World.cell? World.frozen?
  simp only [h]
  simp
theorem Two.kept {w w1 : World} {row : Option Nat} {b : Nat} {c0 c1 : Value} (h : Two w b c0 c1) (hg : w.grownBy w1 row) (hne : some b ≠ row) : Two w1 b c0 c1 := by
  obtain ⟨h0, h1, f0, f1, hb⟩ := h
  obtain ⟨k0, l0⟩ := kept_cell hg hb hne 0
  obtain ⟨k1, l1⟩ := kept_cell hg hb hne 1
  exact ⟨k0.trans h0, k1.trans h1, l0.trans f0, l1.trans f1, Nat.lt_of_lt_of_le hb hg.size⟩
end Go.Proofs.Ytibmkmcdggokbaa
