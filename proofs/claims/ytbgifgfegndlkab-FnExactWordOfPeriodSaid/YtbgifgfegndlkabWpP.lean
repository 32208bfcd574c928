/-
  impl.WordOfPeriod at every list (own work).
-/
import Derived.Test.YtbgifgfegndlkabWpI
import Derived.Test.YtbgifgfegndlkabShelf
namespace Go.Proofs.Ytbgifgfegndlkab
open Go.ChangeShapes Go.WideShapes Go.ChangeAt Go.RowKit Go.Shelf
set_option linter.unusedVariables false
set_option linter.unusedSimpArgs false
set_option maxRecDepth 100000

theorem rep_any (c : UInt8) (k : Int) (w : World) (h0 : 0 ≤ k) (h1 : k ≤ 200) : Calls Try.prog 12 #[.string ⟨#[c]⟩, .int .i64 k] w fun e w' => e = .returned (.string ⟨(List.replicate k.toNat c).toArray⟩) ∧ Below w.heap.size w w' := by
  obtain ⟨n, rfl⟩ : ∃ n : Nat, k = n := ⟨k.toNat, by omega⟩
  have h := Try.strings_Repeat ⟨#[c]⟩ n w (by omega) (by show 1 * n ≤ _; omega)
  have e : Lib.repeatL [c] n = List.replicate n c := by
    have := Lib.repeatL_replicate c 1 n
    rw [Nat.mul_one] at this
    exact this
  rw [show (⟨#[c]⟩ : ByteArray).data.toList = [c] from rfl, e] at h
  rw [Int.toNat_natCast]
  exact h
theorem str_any (B b : Nat) (l : List UInt8) (w : World) (h : Lib.IsBuilder 33 5 B b (Lib.byteCells l) w) (hB : B ≤ w.heap.size) :
    Calls Try.prog 13 #[.pointer (some ⟨b, 0, none⟩)] w fun e w' => e = .returned (.string ⟨l.toArray⟩) ∧ Below B w w' ∧ KeepsOthers w w' := by
  have hbk : ∃ cs, w.heap[b]? = some (.cells cs 33 (0, 0)) := by
    rcases h with ⟨_, v, hb, _⟩ | ⟨_, v, hb, _⟩
    · exact ⟨_, hb⟩
    · exact ⟨_, hb⟩
  obtain ⟨cs, hbk⟩ := hbk
  refine (Try.Builder_String_any_k B b l w (Lib.IsBuilderF.of h) hB).mono ?_
  rintro e w' ⟨rfl, _, hb, hk⟩
  refine ⟨rfl, hb, hb.size, fun k o ho hc => hk k o ho (fun e => ?_) (fun c fz e => ?_)⟩
  · cases e
    rw [hbk] at ho
    cases ho
    cases hc
  · subst e
    cases hc
theorem own_src {B : Nat} {w : World} {xs : List Int} {a : Option Addr} {cap : Nat} (h : OwnI B w (.slice a xs.length cap) xs) : SrcO w a xs ∧ xs.length ≤ cap ∧ cap ≤ 9223372036854775807 := by
  obtain ⟨a', cap', e, f⟩ := own_view h
  refine ⟨fun hp => ?_, ?_⟩
  · cases e
    obtain ⟨g, ha, _, hg, hc, _⟩ := f hp
    exact ⟨g, ha, hg, hc⟩
  · rcases h.2 with ⟨hv, hn⟩ | ⟨g, cap', cur, hv, hbg, hg, hnc, hcm, hcs, htk⟩
    · simp only [Value.slice.injEq] at hv
      omega
    · simp only [Value.slice.injEq] at hv
      have hcm2 : cap' ≤ 9223372036854775807 := Nat.le_trans hcm (by decide)
      omega
set_option maxHeartbeats 1600000 in
theorem impl_WordOfPeriod_any (B : Nat) (a : Option Addr) (cap : Nat) (xs : List Int) (w : World) (h : OwnI B w (.slice a xs.length cap) xs) (hlen : xs.length ≤ 1048576) :
    Calls Try.prog 6 #[.slice a xs.length cap] w fun e w' => e = .returned (.tuple #[.string ⟨(wpW xs).toArray⟩, .int .i64 (wpC xs)]) ∧ Below w.heap.size w w' := by
  obtain ⟨hs, hc1, hc2⟩ := own_src h
  have HOK : Hid (wpOk xs = (decide (xs.length ≠ 0) && decide (xs.length % 2 = 0) && rOk 200 xs)) := rfl
  have HNO := Lib.hid (@wp_no xs)
  have HYES := Lib.hid (@wp_yes xs)
  have HAR := Lib.hid (areRuns_any a cap xs w hs hlen)
  have HS := Lib.hid hs
  obtain ⟨n, hn⟩ : ∃ n, xs.length = n := ⟨_, rfl⟩
  have HN := Lib.hid hn
  rw [hn] at hlen hc1 HOK HAR ⊢
  clear hs hn h
  by_cases h0 : n = 0
  · have hb : wpOk xs = false := by rw [HOK.out, show decide (n ≠ 0) = false from by simp; omega]; rfl
    rw [(HNO.out hb).1, (HNO.out hb).2]
    have hq : ((n : Int) == 0) = true := by simp; omega
    clear hb h0
    go_enter Try.func6, Try.ntmps6
    go_wp2_with fail
    go_ret2
    exact ⟨rfl, by (repeat' (first | (with_reducible exact Below.refl _ _) | (with_reducible refine Below.alloc ?_ ?_ _) | (with_reducible refine Below.setCell ?_ ?_ _) | (with_reducible refine Below.drew ?_) | (with_reducible refine below_drewN ?_ _) | (with_reducible assumption) | (with_reducible refine below_after (by with_reducible assumption) ?_) | go_size))⟩
  · have hq : ((n : Int) == 0) = false := by simp; omega
    by_cases h2 : n % 2 = 1
    · have hb : wpOk xs = false := by rw [HOK.out, show decide (n % 2 = 0) = false from by simp; omega]; simp
      rw [(HNO.out hb).1, (HNO.out hb).2]
      have htm : (n : Int).tmod 2 = 1 := by rw [Int.tmod_eq_emod_of_nonneg (by omega)]; omega
      clear hb h2 h0
      go_enter Try.func6, Try.ntmps6
      go_wp2_with fail
      go_ret2
      exact ⟨rfl, by (repeat' (first | (with_reducible exact Below.refl _ _) | (with_reducible refine Below.alloc ?_ ?_ _) | (with_reducible refine Below.setCell ?_ ?_ _) | (with_reducible refine Below.drew ?_) | (with_reducible refine below_drewN ?_ _) | (with_reducible assumption) | (with_reducible refine below_after (by with_reducible assumption) ?_) | go_size))⟩
    · cases hr : rOk 200 xs
      · have hb : wpOk xs = false := by rw [HOK.out, hr]; simp
        rw [(HNO.out hb).1, (HNO.out hb).2]
        have htm : (n : Int).tmod 2 = 0 := by rw [Int.tmod_eq_emod_of_nonneg (by omega)]; omega
        rw [hr] at HAR
        clear hb h2 h0
        go_enter Try.func6, Try.ntmps6
        go_wp2_with (go_at_call 9; refine (HAR.out).mono ?_; rintro e wn ⟨rfl, rfl⟩)
        go_ret2
        exact ⟨rfl, by (repeat' (first | (with_reducible exact Below.refl _ _) | (with_reducible refine Below.alloc ?_ ?_ _) | (with_reducible refine Below.setCell ?_ ?_ _) | (with_reducible refine Below.drew ?_) | (with_reducible refine below_drewN ?_ _) | (with_reducible assumption) | (with_reducible refine below_after (by with_reducible assumption) ?_) | go_size))⟩
      · have hb : wpOk xs = true := by
          rw [HOK.out, hr, show decide (n ≠ 0) = true from by simp; omega, show decide (n % 2 = 0) = true from by simp; omega]; rfl
        rw [(HYES.out hb).1, (HYES.out hb).2]
        have hsx := HS.out (by have := HN.out; omega)
        obtain ⟨g, rfl, hg, hc⟩ := hsx
        exact wp_yes_any g cap (n / 2) n xs w HN.out (by omega) hr (by omega) hc1 hc2 hg (fun j hj => hc j (by have := HN.out; omega)) rep_any (fun B b l s w h h1 h2 => write_any B b l s w h h1 h2) str_any
end Go.Proofs.Ytbgifgfegndlkab
