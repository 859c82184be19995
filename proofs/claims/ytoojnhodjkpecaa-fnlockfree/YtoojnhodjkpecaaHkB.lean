/- Holds: how the laws size, copy and compare them. -/
import Derived.Test.YtoojnhodjkpecaaHkA
import Derived.Test.YtoojnhodjkpecaaLkS1
import Derived.Lib.QuietBelow
namespace Go.Proofs.Ytoojnhodjkpecaa
open Go.RowKit

set_option maxHeartbeats 400000 in
theorem szHds_any (a : Option Addr) (n cap : Nat) (L : Int) (w : World) (hL : 0 ≤ L) (hL' : L ≤ 1048576) (hn : n ≤ maxLen) :
    Calls Try.prog 60 #[.slice a n cap, .int .i64 L] w fun e w' => e = .returned (.int .i64 (if (n : Int) ≤ L then L - (n : Int) else -1)) ∧ w' = w := by
  unfold maxLen at hn
  by_cases h : (n : Int) ≤ L
  all_goals
    go_enter Try.func60, Try.ntmps60
    go_wp2
    go_ret
    exact ⟨rfl, rfl⟩

set_option maxHeartbeats 400000 in
theorem toHold_any (d k : Int) (s f : Bool) (w : World) :
    Calls Try.prog 31 #[.agg #[.int .i64 d, .int .i64 k, .bool s, .bool f]] w fun e w' => e = .returned (.agg #[.int .i64 d, .int .i64 k, .bool s, .bool f]) ∧ Below w.heap.size w w' := by
  go_enter Try.func31, Try.ntmps31
  go_wp2
  refine bodyPost_ret (v := .agg #[.int .i64 d, .int .i64 k, .bool s, .bool f]) (by simp [results, Try.results31, go_sem]) rfl ⟨rfl, ?_⟩
  repeat (first | exact Below.refl _ _ | (refine Below.alloc ?_ (by simp <;> omega) _))

set_option maxHeartbeats 400000 in
theorem eqHd_any (x y : Hd) (w : World) :
    Calls Try.prog 62 #[.agg #[.int .i64 x.stamp, .int .i64 x.try_, .bool x.share, .bool x.firm], .agg #[.int .i64 y.stamp, .int .i64 y.try_, .bool y.share, .bool y.firm]] w fun e w' => e = .returned (.bool (eqHd x y)) ∧ Below w.heap.size w w' := by
  obtain ⟨a, b, c, d⟩ := x
  obtain ⟨a', b', c', d'⟩ := y
  cases c <;> cases c' <;> cases d <;> cases d'
  all_goals
    go_enter Try.func62, Try.ntmps62
    go_wp2
    all_goals
      go_ret
      refine ⟨by simp_all [eqHd, Hd.tup], ?_⟩
    all_goals repeat (first | exact Below.refl _ _ | (refine Below.alloc ?_ (by simp <;> omega) _))

set_option maxRecDepth 100000 in
set_option maxHeartbeats 1000000 in
theorem toHds_any (v : Value) (hs : List Hd) (w : World) (hv : RowAt hdE w v hs) (hn : hs.length ≤ 1048576) :
    Calls Try.prog 61 #[v] w fun e w' => e = .returned (.slice (some ⟨w.heap.size, 0, none⟩) hs.length hs.length) ∧ RowAt hdE w' (.slice (some ⟨w.heap.size, 0, none⟩) hs.length hs.length) hs ∧ Room w' w.heap.size (hs.length * 4) ∧ w.heap.size < w'.heap.size ∧ Below w.heap.size w w' := by
  obtain ⟨a, cap, rfl, hl⟩ := hv.shape
  have HV := hide hv
  clear hv hl
  obtain ⟨i0, hi, hz0, hz1, hz2⟩ := info_parts Try.infoHd
  generalize hN : hs.length = N at *
  have hmk : ∀ w : World, (Instr.makeSlice 23 (.int .i64 (N : Int)) (.int .i64 (N : Int))).run Try.prog w = .ok (.slice (some ⟨w.heap.size, 0, none⟩) N N) (w.alloc (.cells (madeCells #[.int .i64 0, .int .i64 0, .bool false, .bool false] (N * 4)) 27)) := by
    intro w
    have := run_make (P := Try.prog) w 23 27 i0 (.agg #[.int .i64 0, .int .i64 0, .bool false, .bool false]) Try.underlying23 hi hz0 .i64 .i64 N N (by omega) (by omega) (by rw [hz2]; omega) (by omega)
    simpa [hz1, Value.cells] using this
  clear hi hz0 hz1 hz2 i0
  have HN := hide hN
  clear hN
  go_enter Try.func61, Try.ntmps61
  go_wp2
  go_loopw [4] (fun i wr => ∃ k : Nat, k ≤ N ∧ i = .int .i64 k ∧ Below w.heap.size w wr ∧ w.heap.size < wr.heap.size ∧ Room wr w.heap.size (N * 4) ∧ HdCells wr w.heap.size 0 k hs) (fun i _ => N - (intOf i).toNat)
  case atStart => exact ⟨0, Nat.zero_le _, rfl, (Below.refl _ _).alloc (Nat.le_refl _) _, by simp, Room.made _ _ _ _, fun i hi => absurd hi (Nat.not_lt_zero _)⟩
  case round =>
    obtain ⟨k, hk, rfl, hb, hsz, hroom, hcs⟩ := hrel
    by_cases hlt : k < N
    · obtain ⟨b, off, rfl⟩ := (unhide HV).some_of (by rw [unhide HN]; omega)
      obtain ⟨c0, c1, c2, c3⟩ := hd_cells ((unhide HV).kept hb) (i := k) (by rw [unhide HN]; exact hlt)
      obtain ⟨⟨u0, r0⟩, f0⟩ := hroom (k * 4) (by omega)
      obtain ⟨⟨u1, r1⟩, f1⟩ := hroom (k * 4 + 1) (by omega)
      obtain ⟨⟨u2, r2⟩, f2⟩ := hroom (k * 4 + 2) (by omega)
      obtain ⟨⟨u3, r3⟩, f3⟩ := hroom (k * 4 + 3) (by omega)
      generalize hx : hs.getD k Hd.z = x at c0 c1 c2 c3
      have HX := hide hx
      have HB := hide hb
      have HRM := hide hroom
      have HCS := hide hcs
      clear hmk hx hb hroom hcs
      go_wp2_with (go_at_call 31; refine (toHold_any _ _ _ _ _).mono ?_; rintro e w' ⟨rfl, hb1⟩; have r0' := cell_kept hb1 r0; have r1' := cell_kept hb1 r1; have r2' := cell_kept hb1 r2; have r3' := cell_kept hb1 r3; have f0' := (hb1.frozen (p := ⟨w.heap.size, k * 4, none⟩) (lt_of_cell r0)).trans f0; have f1' := (hb1.frozen (p := ⟨w.heap.size, k * 4 + 1, none⟩) (lt_of_cell r1)).trans f1; have f2' := (hb1.frozen (p := ⟨w.heap.size, k * 4 + 2, none⟩) (lt_of_cell r2)).trans f2; have f3' := (hb1.frozen (p := ⟨w.heap.size, k * 4 + 3, none⟩) (lt_of_cell r3)).trans f3)
      go_roundw
      case rel =>
        have hr1 := (unhide HRM).kept hb1
        have hb' := (unhide HB).trans (hb1.mono (unhide HB).size)
        exact ⟨k + 1, hlt, by go_num, (((hb'.setCell (Nat.le_refl _) _).setCell (Nat.le_refl _) _).setCell (Nat.le_refl _) _).setCell (Nat.le_refl _) _, by have := hb1.size; simp [World.setCell]; omega, (((hr1.set _ _).set _ _).set _ _).set _ _, ((unhide HCS).kept hb1).push hr1 (by omega) (unhide HX)⟩
      case measure => simp [intOf]; omega
    · go_wp2
      go_ret
      obtain rfl : k = N := by omega
      have hN := unhide HN
      refine ⟨rfl, ?_, hroom, hsz, hb⟩
      have := row_of_hdCells (c := hs.length) (Nat.le_refl _) (by unfold maxLen; omega) (by rw [hN]; exact hcs)
      rwa [hN] at this

set_option maxRecDepth 100000 in
set_option maxHeartbeats 1000000 in
theorem eqHds_any (v u : Value) (xs ys : List Hd) (w : World) (hv : RowAt hdE w v xs) (hu : RowAt hdE w u ys) :
    Calls Try.prog 32 #[v, u] w fun e w' => e = .returned (.bool (eqHds xs ys)) ∧ Below w.heap.size w w' := by
  obtain ⟨a, cap, rfl, hl⟩ := hv.shape
  obtain ⟨a', cap', rfl, hl'⟩ := hu.shape
  have HV := hide hv
  have HU := hide hu
  clear hv hu
  generalize hN : xs.length = N at *
  generalize hM : ys.length = M at *
  have HN := hide hN
  have HM := hide hM
  clear hN hM
  unfold maxLen at hl hl'
  by_cases hNM : N = M
  · subst hNM
    have hne : ((N : Int) != (N : Int)) = false := by simp
    go_enter Try.func32, Try.ntmps32
    go_wp2
    go_loopw [5] (fun i wr => ∃ k : Nat, k ≤ N ∧ i = .int .i64 k ∧ Below w.heap.size w wr ∧ xs.take k = ys.take k) (fun i _ => N - (intOf i).toNat)
    case atStart => exact ⟨0, Nat.zero_le _, rfl, Below.refl _ _, by simp⟩
    case round =>
      obtain ⟨k, hk, rfl, hb, htk⟩ := hrel
      have HT := hide htk
      have HB := hide hb
      clear htk hb
      by_cases hlt : k < N
      · obtain ⟨b, off, rfl⟩ := (unhide HV).some_of (by rw [unhide HN]; omega)
        obtain ⟨b', off', rfl⟩ := (unhide HU).some_of (by rw [unhide HM]; omega)
        obtain ⟨c0, c1, c2, c3⟩ := hd_cells ((unhide HV).kept (unhide HB)) (i := k) (by rw [unhide HN]; exact hlt)
        obtain ⟨d0, d1, d2, d3⟩ := hd_cells ((unhide HU).kept (unhide HB)) (i := k) (by rw [unhide HM]; exact hlt)
        generalize hx : xs.getD k Hd.z = x at c0 c1 c2 c3
        generalize hy : ys.getD k Hd.z = y at d0 d1 d2 d3
        have HX := hide hx
        have HY := hide hy
        have p0 := fun d os => cell_regrown c0 d os
        have p1 := fun d os => cell_regrown c1 d os
        have p2 := fun d os => cell_regrown c2 d os
        have p3 := fun d os => cell_regrown c3 d os
        have q0 := fun d os => cell_regrown d0 d os
        have q1 := fun d os => cell_regrown d1 d os
        have q2 := fun d os => cell_regrown d2 d os
        have q3 := fun d os => cell_regrown d3 d os
        have hkI : (k : Int) < (N : Int) := by omega
        have hk0 : (0 : Int) ≤ (k : Int) := by omega
        clear hx hy c0 c1 c2 c3 d0 d1 d2 d3
        go_wp2_with fail
        refine wp_region_quiet_below (by kernel_rfl) (by kernel_rfl) ?_
        repeat (go_big_quiet_step ((first | (go_at_call 62; refine Calls.regrown_of (eqHd_any x y _)))))
        refine wpQuiet_nil ?_
        intro w9 hw9
        have hb9 : Below wr.heap.size wr w9 := by obtain ⟨p, e⟩ := hw9; rw [e]; exact below_regrown _ _ _
        have HB9 := hide ((unhide HB).trans (hb9.mono (unhide HB).size))
        clear hw9 hb9 p0 p1 p2 p3 q0 q1 q2 q3
        cases hxy : eqHd x y
        · have HXY := hide hxy
          clear hxy
          go_wp2_with fail
          go_ret
          refine ⟨ret_bool ?_, unhide HB9⟩
          have : eqHds xs ys = false := by
            have h1 := unhide HX; have h2 := unhide HY; have h3 := unhide HXY
            simp only [eqHd, decide_eq_false_iff_not] at h3
            simp only [eqHds, decide_eq_false_iff_not]
            intro e; apply h3; rw [← h1, ← h2, map_tupH_inj e]
          rw [this]
        · have HXY := hide hxy
          clear hxy
          go_wp2_with fail
          go_roundw
          case rel =>
            have h1 := unhide HX; have h2 := unhide HY; have h3 := unhide HXY
            simp only [eqHd, decide_eq_true_eq] at h3
            exact ⟨k + 1, hlt, by go_num, unhide HB9, take_eq_step (unhide HT) (by rw [unhide HN]; exact hlt) (by rw [unhide HM]; exact hlt) (by rw [h1, h2, Hd.tup_inj h3])⟩
          case measure => simp [intOf]; omega
      · go_wp2
        go_ret
        refine ⟨ret_bool ?_, unhide HB⟩
        obtain rfl : k = N := by omega
        have h1 := unhide HT; have h2 := unhide HN; have h3 := unhide HM
        rw [List.take_of_length_le (by omega), List.take_of_length_le (by omega)] at h1
        simp [eqHds, h1]
  · have hne : ((N : Int) != (M : Int)) = true := by simp; omega
    go_enter Try.func32, Try.ntmps32
    go_wp2
    go_ret
    refine ⟨?_, Below.refl _ _⟩
    have : eqHds xs ys = false := by
      have h1 := unhide HN; have h2 := unhide HM
      simp only [eqHds, decide_eq_false_iff_not]; intro e; have := map_tupH_inj e; subst this; omega
    rw [this]; rfl

end Go.Proofs.Ytoojnhodjkpecaa
