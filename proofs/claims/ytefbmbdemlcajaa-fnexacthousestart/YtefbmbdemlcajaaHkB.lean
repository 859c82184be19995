/- Holds: how the laws size, copy and compare them. -/
import Derived.Test.YtefbmbdemlcajaaHkA
import Derived.Test.YtefbmbdemlcajaaLkS1
import Derived.Lib.QuietBelow
namespace Go.Proofs.Ytefbmbdemlcajaa
open Go.RowKit

set_option maxHeartbeats 400000 in
theorem eqHd_any (x y : Hd) (w : World) :
    Calls Try.prog 38 #[.agg #[.int .i64 x.stamp, .int .i64 x.try_, .bool x.share, .bool x.firm], .agg #[.int .i64 y.stamp, .int .i64 y.try_, .bool y.share, .bool y.firm]] w fun e w' => e = .returned (.bool (eqHd x y)) ∧ Below w.heap.size w w' := by
  obtain ⟨a, b, c, d⟩ := x
  obtain ⟨a', b', c', d'⟩ := y
  cases c <;> cases c' <;> cases d <;> cases d'
  all_goals
    go_enter Try.func38, Try.ntmps38
    go_wp2
    all_goals
      go_ret
      refine ⟨by simp_all [eqHd, Hd.tup], ?_⟩
    all_goals repeat (first | exact Below.refl _ _ | (refine Below.alloc ?_ (by simp <;> omega) _))

set_option maxRecDepth 100000 in
set_option maxHeartbeats 1000000 in
theorem eqHds_any (v u : Value) (xs ys : List Hd) (w : World) (hv : RowAt hdE w v xs) (hu : RowAt hdE w u ys) :
    Calls Try.prog 36 #[v, u] w fun e w' => e = .returned (.bool (eqHds xs ys)) ∧ Below w.heap.size w w' := by
  obtain ⟨a, cap, rfl, hl⟩ := hv.shape
  obtain ⟨a', cap', rfl, hl'⟩ := hu.shape
  have HV := hide hv
  have HU := hide hu
  clear hv hu
  generalize hN : xs.length = N at *
  generalize hM : ys.length = M at *
  have HN := hide hN
  have HM := hide hM
  clear hN hM
  unfold maxLen at hl hl'
  by_cases hNM : N = M
  · subst hNM
    have hne : ((N : Int) != (N : Int)) = false := by simp
    go_enter Try.func36, Try.ntmps36
    go_wp2
    go_loopw [5] (fun i wr => ∃ k : Nat, k ≤ N ∧ i = .int .i64 k ∧ Below w.heap.size w wr ∧ xs.take k = ys.take k) (fun i _ => N - (intOf i).toNat)
    case atStart => exact ⟨0, Nat.zero_le _, rfl, Below.refl _ _, by simp⟩
    case round =>
      obtain ⟨k, hk, rfl, hb, htk⟩ := hrel
      have HT := hide htk
      have HB := hide hb
      clear htk hb
      by_cases hlt : k < N
      · obtain ⟨b, off, rfl⟩ := (unhide HV).some_of (by rw [unhide HN]; omega)
        obtain ⟨b', off', rfl⟩ := (unhide HU).some_of (by rw [unhide HM]; omega)
        obtain ⟨c0, c1, c2, c3⟩ := hd_cells ((unhide HV).kept (unhide HB)) (i := k) (by rw [unhide HN]; exact hlt)
        obtain ⟨d0, d1, d2, d3⟩ := hd_cells ((unhide HU).kept (unhide HB)) (i := k) (by rw [unhide HM]; exact hlt)
        generalize hx : xs.getD k Hd.z = x at c0 c1 c2 c3
        generalize hy : ys.getD k Hd.z = y at d0 d1 d2 d3
        have HX := hide hx
        have HY := hide hy
        have p0 := fun d os => cell_regrown c0 d os
        have p1 := fun d os => cell_regrown c1 d os
        have p2 := fun d os => cell_regrown c2 d os
        have p3 := fun d os => cell_regrown c3 d os
        have q0 := fun d os => cell_regrown d0 d os
        have q1 := fun d os => cell_regrown d1 d os
        have q2 := fun d os => cell_regrown d2 d os
        have q3 := fun d os => cell_regrown d3 d os
        have hkI : (k : Int) < (N : Int) := by omega
        have hk0 : (0 : Int) ≤ (k : Int) := by omega
        clear hx hy c0 c1 c2 c3 d0 d1 d2 d3
        go_wp2_with fail
        refine wp_region_quiet_below (by kernel_rfl) (by kernel_rfl) ?_
        repeat (go_big_quiet_step ((first | (go_at_call 38; refine Calls.regrown_of (eqHd_any x y _)))))
        refine wpQuiet_nil ?_
        intro w9 hw9
        have hb9 : Below wr.heap.size wr w9 := by obtain ⟨p, e⟩ := hw9; rw [e]; exact below_regrown _ _ _
        have HB9 := hide ((unhide HB).trans (hb9.mono (unhide HB).size))
        clear hw9 hb9 p0 p1 p2 p3 q0 q1 q2 q3
        cases hxy : eqHd x y
        · have HXY := hide hxy
          clear hxy
          go_wp2_with fail
          go_ret
          refine ⟨ret_bool ?_, unhide HB9⟩
          have : eqHds xs ys = false := by
            have h1 := unhide HX; have h2 := unhide HY; have h3 := unhide HXY
            simp only [eqHd, decide_eq_false_iff_not] at h3
            simp only [eqHds, decide_eq_false_iff_not]
            intro e; apply h3; rw [← h1, ← h2, map_tupH_inj e]
          rw [this]
        · have HXY := hide hxy
          clear hxy
          go_wp2_with fail
          go_roundw
          case rel =>
            have h1 := unhide HX; have h2 := unhide HY; have h3 := unhide HXY
            simp only [eqHd, decide_eq_true_eq] at h3
            exact ⟨k + 1, hlt, by go_num, unhide HB9, take_eq_step (unhide HT) (by rw [unhide HN]; exact hlt) (by rw [unhide HM]; exact hlt) (by rw [h1, h2, Hd.tup_inj h3])⟩
          case measure => simp [intOf]; omega
      · go_wp2
        go_ret
        refine ⟨ret_bool ?_, unhide HB⟩
        obtain rfl : k = N := by omega
        have h1 := unhide HT; have h2 := unhide HN; have h3 := unhide HM
        rw [List.take_of_length_le (by omega), List.take_of_length_le (by omega)] at h1
        simp [eqHds, h1]
  · have hne : ((N : Int) != (M : Int)) = true := by simp; omega
    go_enter Try.func36, Try.ntmps36
    go_wp2
    go_ret
    refine ⟨?_, Below.refl _ _⟩
    have : eqHds xs ys = false := by
      have h1 := unhide HN; have h2 := unhide HM
      simp only [eqHds, decide_eq_false_iff_not]; intro e; have := map_tupH_inj e; subst this; omega
    rw [this]; rfl

end Go.Proofs.Ytefbmbdemlcajaa
