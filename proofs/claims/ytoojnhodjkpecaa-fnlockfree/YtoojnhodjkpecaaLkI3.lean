/- The program says whether a lock is ok. -/
import Derived.Test.YtoojnhodjkpecaaLkI2
import Derived.Test.YtoojnhodjkpecaaLkS5
namespace Go.Proofs.Ytoojnhodjkpecaa
open Go.RowKit Go.Shelf

def ascB (hs : List Hd) : Bool := (List.range hs.length).all fun i => decide (i = 0) || decide ((hs.getD (i - 1) Hd.z).stamp < (hs.getD i Hd.z).stamp)
def ascTo (hs : List Hd) (k : Nat) : Bool := (List.range k).all fun i => decide (i = 0) || decide ((hs.getD (i - 1) Hd.z).stamp < (hs.getD i Hd.z).stamp)

theorem Below.region {w w' : World} {p : Regrown} (h : w' = Go.Sort.grow (redrawn w p.d) p.os) : Below w.heap.size w w' := by rw [h]; exact below_regrown _ _ _

set_option maxRecDepth 100000 in
set_option maxHeartbeats 1000000 in
theorem ascends_any (v : Value) (hs : List Hd) (w : World) (hv : RowAt hdE w v hs) :
    Calls Try.prog 74 #[v, .func (.func 73) #[] #[]] w fun e w' => e = .returned (.bool (ascB hs)) ∧ Below w.heap.size w w' := by
  obtain ⟨a, cap, rfl, hl⟩ := hv.shape
  have HV := hide hv
  clear hv
  generalize hN : hs.length = N at *
  have HN := hide hN
  have HA : Hid (ascB hs = ascTo hs N) := by show ascB hs = ascTo hs N; rw [← hN]; rfl
  clear hN
  unfold maxLen at hl
  go_enter Try.func74, Try.ntmps74
  go_wp2_with fail
  go_loopw [5] (fun i wr => ∃ k : Nat, (k ≤ N ∨ k = 1) ∧ 1 ≤ k ∧ i = .int .i64 k ∧ ascTo hs k = true ∧ Below w.heap.size w wr) (fun i _ => N - (intOf i).toNat)
  case atStart => exact ⟨1, .inr rfl, Nat.le_refl _, rfl, rfl, Below.refl _ _⟩
  case round =>
    obtain ⟨k, hk, hk1, rfl, hno, hb⟩ := hrel
    have HNO := hide hno
    have HB := hide hb
    clear hno hb
    by_cases hlt : k < N
    · obtain ⟨b, off, rfl⟩ := (unhide HV).some_of (by rw [unhide HN]; omega)
      obtain ⟨j, rfl⟩ : ∃ j, k = j + 1 := ⟨k - 1, by omega⟩
      obtain ⟨c0, c1, c2, c3⟩ := hd_cells ((unhide HV).kept (unhide HB)) (i := j) (by rw [unhide HN]; omega)
      obtain ⟨d0, d1, d2, d3⟩ := hd_cells ((unhide HV).kept (unhide HB)) (i := j + 1) (by rw [unhide HN]; omega)
      have HY := hide (rfl : hs.getD j Hd.z = hs.getD j Hd.z)
      generalize hx : hs.getD j Hd.z = x at c0 c1 c2 c3
      generalize hy : hs.getD (j + 1) Hd.z = y at d0 d1 d2 d3
      have HX := hide hx
      have HYY := hide hy
      clear hx hy HY
      have p0 := fun d os => cell_regrown c0 d os
      have p1 := fun d os => cell_regrown c1 d os
      have p2 := fun d os => cell_regrown c2 d os
      have p3 := fun d os => cell_regrown c3 d os
      have q0 := fun d os => cell_regrown d0 d os
      have q1 := fun d os => cell_regrown d1 d os
      have q2 := fun d os => cell_regrown d2 d os
      have q3 := fun d os => cell_regrown d3 d os
      have hkI : (j : Int) < (N : Int) := by omega
      have hkI' : (j : Int) + 1 < (N : Int) := by omega
      have hk0' : (0 : Int) ≤ (j : Int) := by omega
      have hent : ∀ args w, (callFunc 73 args).run Try.prog w = .ok (.enter 73 args) w := enters_of Try.func73 (by kernel_rfl) rfl
      clear c0 c1 c2 c3 d0 d1 d2 d3 hk hk1
      go_wp2_with fail
      refine wp_region_quiet_below (by kernel_rfl) (by kernel_rfl) ?_
      repeat (go_big_quiet_step ((first | (go_at_call 73; refine Calls.regrown_of (stampOf_any x _)) | (go_at_call 73; refine Calls.regrown_of (stampOf_any y _)))))
      refine wpQuiet_nil ?_
      intro w9 hw9
      have hb9 : Below wr.heap.size wr w9 := by obtain ⟨p, e⟩ := hw9; exact Below.region e
      have HB9 := hide ((unhide HB).trans (hb9.mono (unhide HB).size))
      clear hw9 hb9 p0 p1 p2 p3 q0 q1 q2 q3
      by_cases hxy : x.stamp < y.stamp
      · have HXY := hide hxy
        have hn : ¬ (y.stamp ≤ x.stamp) := by omega
        clear hxy
        go_wp2_with fail
        go_roundw
        case rel =>
          refine ⟨j + 1 + 1, .inl hlt, by omega, by go_num, ?_, unhide HB9⟩
          unfold ascTo
          refine rg_step (unhide HNO) ?_
          rw [show j + 1 - 1 = j from by omega, unhide HX, unhide HYY]
          simp [unhide HXY]
        case measure => simp [intOf]; omega
      · have HXY := hide hxy
        have hn : y.stamp ≤ x.stamp := by omega
        clear hxy
        have HF : Hid (ascB hs = false) := by
          show ascB hs = false
          rw [unhide HA]
          unfold ascTo
          refine rg_false (k := j + 1) hlt ?_
          rw [show j + 1 - 1 = j from by omega, unhide HX, unhide HYY]
          simp; omega
        go_wp2_with fail
        go_ret
        exact ⟨ret_bool (unhide HF).symm, unhide HB9⟩
    · have HF : Hid (ascB hs = true) := by
        show ascB hs = true
        rw [unhide HA]
        by_cases e : k = N
        · rw [← e]; exact unhide HNO
        · have : N = 0 := by omega
          rw [this]; rfl
      go_wp2_with fail
      go_ret
      exact ⟨ret_bool (unhide HF).symm, unhide HB⟩

end Go.Proofs.Ytoojnhodjkpecaa
