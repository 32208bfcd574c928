/-
  The library's Builder where its copy check refuses instead of panicking: checks and writes (own work; the facts of builders are the library's).
-/
import Derived.Test.YtbgifgfegndlkabWpJ
import Derived.Shelf.Strings.Builder1
import Derived.RangeFuncOwn
import Derived.RangeFuncWrites
namespace Go.Proofs.Ytbgifgfegndlkab
open Go.ChangeShapes Go.WideShapes Go.ChangeAt Go.RowKit Go.Shelf
set_option linter.unusedVariables false
set_option linter.unusedSimpArgs false
set_option maxRecDepth 100000

theorem size_bld : (Try.prog.info? 33).map (·.size) = some 2 := by kernel_rfl
theorem lies_bld : liesAt Try.prog Try.prog.depth 33 (2 / Try.prog.cellsOf 33) 0 33 1 = true := by kernel_rfl
/-- A builder of the call's own that holds these bytes. -/
def Bld (B b : Nat) (l : List UInt8) (w : World) : Prop := Lib.IsBuilder 33 5 B b (Lib.byteCells l) w
theorem keeps_set (w : World) (b j : Nat) (v : Value) (h : ∃ o : Obj, w.heap[b]? = some o ∧ o.isCells = true) : KeepsOthers w (w.setCell ⟨b, j, none⟩ v) :=
  ⟨by simp, fun k o hk ho => by
    have hne : k ≠ b := fun e => by
      obtain ⟨o', h1, h2⟩ := h
      rw [e, h1] at hk
      cases hk
      rw [h2] at ho; cases ho
    exact (Below.heap_setCell w ⟨b, j, none⟩ v k hne).trans hk⟩
theorem check_any (B b : Nat) (bs : List Value) (w : World) (h : Lib.IsBuilder 33 5 B b bs w) :
    Calls Try.prog 15 #[.pointer (some ⟨b, 0, none⟩)] w fun e w' => e = .returned (.tuple #[]) ∧ Lib.BuilderAt 33 5 B b (.pointer (some ⟨b, 0, none⟩)) bs w' ∧ Below B w w' ∧ KeepsOthers w w' ∧ KeepsT b w w' := by
  obtain ⟨j, hj, hjs⟩ := Option.map_eq_some_iff.1 size_bld
  rcases h with h | h
  · have c0 := h.cell0
    have f0 := h.frozen0
    have hsh := h.shape
    go_enter Try.func15, Try.ntmps15
    go_wp2
    rw [Lib.run_to_unsafe w ⟨b, 0, none⟩ Try.underlying30 Try.underlying50 hj (by rw [hjs]; decide) hsh (by show 0 < 2; decide)]
    simp only [Result.andThen]
    rw [Oper.upon_value]
    go_wp2
    rw [run_callFunc_extern Try.func20 (by kernel_rfl) (by kernel_rfl) (by kernel_rfl) (e := Extern.AbiNoEscape.same) (by kernel_rfl), Lib.run_noEscape]
    simp only [Result.andThen]
    rw [Oper.upon_value]
    go_wp2
    rw [Lib.run_from_unsafe w ⟨b, 0, none⟩ Try.underlying50 Try.underlying30 hj hsh lies_bld]
    simp only [Result.andThen]
    rw [Oper.upon_value]
    go_wp2
    go_end0
    exact ⟨rfl, h.used _, (Below.refl B w).setCell (p := ⟨b, 0, none⟩) h.1 _, keeps_set w b 0 _ ⟨_, h.2.choose_spec.1, rfl⟩, KeepsT.set b 0 _ w⟩
  · have c0 := h.cell0
    go_enter Try.func15, Try.ntmps15
    go_wp2
    rw [Lib.run_neq_ptr_same w _ Try.underlying30 hj]
    go_wp2
    go_end0
    exact ⟨rfl, h, Below.refl B _, KeepsOthers.refl _, KeepsT.refl b _⟩
theorem info_by : (Try.prog.info? 5).map (fun i => (i.zero, i.size, i.bytes)) = some (some (.int .u8 0), 1, 1) := by kernel_rfl
theorem strCells_bytes (l : List UInt8) : Lib.strCells ⟨l.toArray⟩ = Lib.byteCells l := by simp [Lib.strCells, Lib.byteCells]
theorem write_any (B b : Nat) (l s : List UInt8) (w : World) (h : Bld B b l w) (hlen : l.length + s.length ≤ 1048576) (hBw : B ≤ w.heap.size) :
    Calls Try.prog 11 #[.pointer (some ⟨b, 0, none⟩), .string ⟨s.toArray⟩] w fun e w' => e = .returned (.tuple #[.int .i64 s.length, .nilIface]) ∧ Bld B b (l ++ s) w' ∧ Below B w w' ∧ KeepsOthers w w' ∧ KeepsT b w w' := by
  obtain ⟨i0, hi, hz0, hz1, hz2⟩ := info_parts info_by
  have hsz := bytes_size s
  have hbl : (Lib.byteCells l).length = l.length := by simp [Lib.byteCells]
  go_enter Try.func11, Try.ntmps11
  go_wp2_with fail
  go_at_call 15
  refine (check_any B b _ w h).mono ?_
  rintro e w1 ⟨rfl, h1, hb1, hko1, hkt1⟩
  have hlt := h1.lt
  obtain ⟨hB, v, hbk, hown, hne⟩ := h1
  have c0 : w1.cell? ⟨b, 0, none⟩ = some (.pointer (some ⟨b, 0, none⟩)) := by rw [Lib.cell_of_heap hbk]; rfl
  have c1 : w1.cell? ⟨b, 1, none⟩ = some v := by rw [Lib.cell_of_heap hbk]; rfl
  have hB1 : B ≤ w1.heap.size := Nat.le_trans hBw hb1.size
  have hm : (Lib.byteCells l).length + (⟨s.toArray⟩ : ByteArray).size ≤ 1048576 := by omega
  go_wp2_with (at_builtin; refine Lib.wpList_append_own_string _ rfl _ _ 31 9 rfl B 5 i0 Try.underlying31 Try.underlying9 hi hz0 hz1 hz2 _ _ _ rfl hown ⟨s.toArray⟩ rfl (by unfold maxLen; omega) (by omega) hB1 ?_)
  intro v2 w2 hown2 hgrow _
  have hb2 : w2.heap[b]? = some (.cells #[.pointer (some ⟨b, 0, none⟩), v] 33 (0, 0)) := (hgrow.block b hlt (fun e => hne e.symm)).trans hbk
  have d1 : w2.cell? ⟨b, 1, none⟩ = some v := by rw [Lib.cell_of_heap hb2]; rfl
  have f1 : w2.frozen? ⟨b, 1, none⟩ = false := Lib.frozen_of_heap hb2 1
  have hpb : Below B w w2 := hb1.grown hgrow hB1 (fun k hk => (hown.lt k hk).1)
  have hko2 : KeepsOthers w1 w2 := ⟨hgrow.size, fun k o hk ho => by
    refine (hgrow.block k (Array.getElem?_eq_some_iff.1 hk).1 (fun e => ?_)).trans hk
    rcases hown.2 with ⟨hv, _⟩ | ⟨g, cap, cur, hv, _, hg, _⟩
    · rw [hv] at e; cases e
    · rw [hv] at e
      have e2 : k = g := by simpa [Value.ownBlock] using e
      rw [e2, hg] at hk
      cases hk
      cases ho⟩
  have hkt2 : KeepsT b w1 w2 := fun k cs T fz hk hT _ => by
    refine hgrow.block k (Array.getElem?_eq_some_iff.1 hk).1 (fun e => ?_)
    rcases hown.2 with ⟨hv, _⟩ | ⟨g, cap, cur, hv, _, hg, _⟩
    · rw [hv] at e; cases e
    · rw [hv] at e
      have e2 : k = g := by simpa [Value.ownBlock] using e
      rw [e2, hg] at hk
      cases hk
      exact hT rfl
  have hkt := (hkt1.trans hkt2).trans (KeepsT.set b 1 v2 w2)
  have hko3 := keeps_set w2 b 1 v2 ⟨_, hb2, rfl⟩
  have hko := (hko1.trans hko2).trans hko3
  have hput := Lib.BuilderAt.put (T := 33) (e := 5) hB hb2 (bs' := Lib.byteCells l ++ Lib.strCells ⟨s.toArray⟩) (by rw [List.length_append, Lib.strCells_length, hbl, hsz]; exact hown2) (by decide)
  have hfin : Bld B b (l ++ s) (w2.setCell ⟨b, 1, none⟩ v2) := by
    rw [strCells_bytes, show Lib.byteCells l ++ Lib.byteCells s = Lib.byteCells (l ++ s) from by simp [Lib.byteCells]] at hput
    exact .inr hput
  obtain ⟨ao, n, cap, rfl⟩ : ∃ ao n cap, v2 = .slice ao n cap := by
    rcases hown2.2 with ⟨hv, _⟩ | ⟨_, _, _, hv, _⟩
    · exact ⟨_, _, _, hv⟩
    · exact ⟨_, _, _, hv⟩
  clear c0 c1 hbk hown hgrow hput hb2 hown2 hb1 h hne hko1 hko2 hko3 hkt1 hkt2
  go_wp2_with fail
  go_ret2
  exact ⟨rfl, hfin, hpb.setCell (p := ⟨b, 1, none⟩) hB _, hko, hkt⟩
end Go.Proofs.Ytbgifgfegndlkab
