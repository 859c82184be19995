/- The specification says whether a lock is ok. -/
import Derived.Test.YtoojnhodjkpecaaLkS5
import Derived.Lib.QuietBelow
namespace Go.Proofs.Ytoojnhodjkpecaa
open Go.RowKit

theorem Below.regionS {w w' : World} {p : Regrown} (h : w' = Go.Sort.grow (redrawn w p.d) p.os) : Below w.heap.size w w' := by rw [h]; exact below_regrown _ _ _

set_option linter.unusedSimpArgs false in
set_option maxRecDepth 100000 in
set_option maxHeartbeats 4000000 in
theorem lockOk_any (l : Lk) (a b : Value) (w : World) (hv : LkAt w l a b) (hn : l.held.length ≤ 1048576) (hm : l.waits.length ≤ 1048576) :
    Calls Try.prog 17 #[lkV l a b] w fun e w' => e = .returned (.bool (lockOkB l)) ∧ Below w.heap.size w w' := by
  obtain ⟨slot, H, W⟩ := l
  obtain ⟨hvh, hvw⟩ := hv
  simp only [lkV] at *
  obtain ⟨ah, ch, rfl, hlh⟩ := hvh.shape
  obtain ⟨aw, cw, rfl, hlw⟩ := hvw.shape
  have HH := hide hvh
  have HW := hide hvw
  clear hlh hlw hvh hvw
  have HSL := hide (fun h => lockOk_slot (slot := slot) (H := H) (W := W) h)
  have HMN := hide (fun h => lockOk_many (slot := slot) (H := H) (W := W) h)
  have HFH := hide (fun k hk h => lockOk_held (slot := slot) (H := H) (W := W) (k := k) hk h)
  have HFW := hide (fun k hk h => lockOk_waits (slot := slot) (H := H) (W := W) (k := k) hk h)
  have HFIN : Hid (lockOkB ⟨slot, H, W⟩ = (inB slot 0 7 && decide (H.length + W.length ≤ 16) && (List.range H.length).all (heldAt H) && (List.range W.length).all (waitsAt H W))) := rfl
  generalize hN : H.length = N at *
  have HN := hide hN
  clear hN
  generalize hM : W.length = M at *
  have HM := hide hM
  clear hM
  cases t1 : inB slot 0 7
  · go_enter Try.func17, Try.ntmps17
    go_wp2_with fail
    refine (l6In_any _ _ _ _).mono ?_
    rw [t1]
    rintro e w1 ⟨rfl, rfl⟩
    go_wp2_with fail
    go_ret
    exact ⟨ret_bool (unhide HSL t1).symm, (Below.refl _ _).alloc (Nat.le_refl _) _⟩
  by_cases hnm : N + M ≤ 16
  case neg =>
    have hgt : (16 : Int) < (N : Int) + (M : Int) := by omega
    go_enter Try.func17, Try.ntmps17
    go_wp2_with fail
    refine (l6In_any _ _ _ _).mono ?_
    rw [t1]
    rintro e w1 ⟨rfl, rfl⟩
    go_wp2_with fail
    go_ret
    exact ⟨ret_bool (unhide HMN (by omega)).symm, (Below.refl _ _).alloc (Nat.le_refl _) _⟩
  have hle : ¬ (16 : Int) < (N : Int) + (M : Int) := by omega
  have HLE : Hid (decide (N + M ≤ 16) = true) := by show decide (N + M ≤ 16) = true; simpa using hnm
  have HT1 := hide t1
  go_enter Try.func17, Try.ntmps17
  go_wp2_with fail
  refine (l6In_any _ _ _ _).mono ?_
  rw [t1]
  clear t1
  rintro e w1 ⟨rfl, rfl⟩
  go_wp2_with fail
  go_loopw [3] (fun i wr => ∃ k : Nat, k ≤ N ∧ i = .int .i64 k ∧ (List.range k).all (heldAt H) = true ∧ Bx wr w.heap.size 25 #[.int .i64 slot, .slice ah N ch, .slice aw M cw] ∧ Below w.heap.size w wr) (fun i _ => N - (intOf i).toNat)
  case atStart => exact ⟨0, Nat.zero_le _, rfl, rfl, Bx.made w _ _, (Below.refl _ _).alloc (Nat.le_refl _) _⟩
  case round =>
    obtain ⟨k, hk, rfl, hall, hbx, hb⟩ := hrel
    have HALL := hide hall
    have HBX := hide hbx
    have HBR := hide hb
    obtain ⟨b0, b1, b2⟩ := hbx.three
    clear hall hbx hb
    by_cases hlt : k < N
    · obtain ⟨bb, off, rfl⟩ := (unhide HH).some_of (by rw [unhide HN]; omega)
      obtain ⟨c0, c1, c2, c3⟩ := hd_cells ((unhide HH).kept (unhide HBR)) (i := k) (by rw [unhide HN]; exact hlt)
      have HHA : Hid (heldAt H k = (holdOkB (H.getD k Hd.z) && (decide (k = 0) || (decide ((H.getD (k - 1) Hd.z).stamp < (H.getD k Hd.z).stamp) && !meetB (H.getD 0 Hd.z) (H.getD k Hd.z))))) := rfl
      generalize hx : H.getD k Hd.z = x at c0 c1 c2 c3
      have HX := hide hx
      clear hx
      have p1 := fun d os => cell_regrown b1 d os
      have hkI : (k : Int) < (N : Int) := by omega
      have hk0' : (0 : Int) ≤ (k : Int) := by omega
      have q0 := fun d os => cell_regrown c0 d os
      have q1 := fun d os => cell_regrown c1 d os
      have q2 := fun d os => cell_regrown c2 d os
      have q3 := fun d os => cell_regrown c3 d os
      cases t1 : holdOkB x
      · have HHX : Hid (∀ ww, Calls Try.prog 42 #[.agg #[.int .i64 x.stamp, .int .i64 x.try_, .bool x.share, .bool x.firm]] ww fun e w' => e = .returned (.bool false) ∧ Below ww.heap.size ww w') := fun ww => by have := holdOk_any x ww; rw [t1] at this; exact this
        have HT := hide t1
        clear t1
        go_wp2_with fail
        refine wp_region_quiet_below (by kernel_rfl) (by kernel_rfl) ?_
        repeat (go_big_quiet_step ((first | (go_at_call 42; refine Calls.regrown_of (unhide HHX _)))))
        refine wpQuiet_nil ?_
        intro w9 hw9
        have hb9 : Below wr.heap.size wr w9 := by obtain ⟨p, e⟩ := hw9; exact Below.regionS e
        have HX9 := hide ((unhide HBX).kept hb9)
        have HB9 := hide ((unhide HBR).trans (hb9.mono (unhide HBR).size))
        clear hw9 hb9 p1 q0 q1 q2 q3
        have HS2 : Hid (lockOkB ⟨slot, H, W⟩ = false) := by
          show lockOkB ⟨slot, H, W⟩ = false
          refine unhide HFH k (by omega) ?_; rw [unhide HHA, unhide HX, unhide HT]; rfl
        go_wp2_with fail
        go_ret
        exact ⟨ret_bool (unhide HS2).symm, unhide HB9⟩
      have HHX : Hid (∀ ww, Calls Try.prog 42 #[.agg #[.int .i64 x.stamp, .int .i64 x.try_, .bool x.share, .bool x.firm]] ww fun e w' => e = .returned (.bool true) ∧ Below ww.heap.size ww w') := fun ww => by have := holdOk_any x ww; rw [t1] at this; exact this
      have HT := hide t1
      clear t1
      by_cases hk0 : k = 0
      · have HK0 := hide hk0
        have HR : Hid (heldAt H k = true) := by show heldAt H k = true; rw [unhide HHA, unhide HX, unhide HT, hk0]; rfl
        subst hk0
        clear hkI hk0' c0 c1 c2 c3
        simp only [Nat.zero_mul, Nat.add_zero] at q0 q1 q2 q3
        go_wp2_with fail
        refine wp_region_quiet_below (by kernel_rfl) (by kernel_rfl) ?_
        repeat (go_big_quiet_step ((first | (go_at_call 42; refine Calls.regrown_of (unhide HHX _)))))
        refine wpQuiet_nil ?_
        intro w9 hw9
        have hb9 : Below wr.heap.size wr w9 := by obtain ⟨p, e⟩ := hw9; exact Below.regionS e
        have HX9 := hide ((unhide HBX).kept hb9)
        have HB9 := hide ((unhide HBR).trans (hb9.mono (unhide HBR).size))
        clear hw9 hb9 p1 q0 q1 q2 q3
        have HS2 : Hid ((List.range (0 + 1)).all (heldAt H) = true) := by
          show (List.range (0 + 1)).all (heldAt H) = true
          refine rg_step (unhide HALL) ?_
          exact unhide HR
        go_wp2_with fail
        go_roundw
        case rel => exact ⟨0 + 1, hlt, by go_num, unhide HS2, unhide HX9, unhide HB9⟩
        case measure => simp [intOf]; omega
      obtain ⟨j, rfl⟩ : ∃ j, k = j + 1 := ⟨k - 1, by omega⟩
      obtain ⟨d0, d1, d2, d3⟩ := hd_cells ((unhide HH).kept (unhide HBR)) (i := j) (by rw [unhide HN]; omega)
      obtain ⟨e0, e1, e2, e3⟩ := hd_cells ((unhide HH).kept (unhide HBR)) (i := 0) (by rw [unhide HN]; omega)
      generalize hy : H.getD j Hd.z = y at d0 d1 d2 d3
      have HY := hide hy
      clear hy
      generalize hz : H.getD 0 Hd.z = z at e0 e1 e2 e3
      have HZ := hide hz
      clear hz hk0
      simp only [Nat.zero_mul, Nat.add_zero] at e0 e1 e2 e3
      have hjI : (j : Int) < (N : Int) := by omega
      have hj0 : (0 : Int) ≤ (j : Int) := by omega
      have hjI' : (j : Int) + 1 < (N : Int) := by omega
      have hN0 : 0 < N := by omega
      have hN0' : (0 : Int) < (N : Int) := by omega
      have HHB : Hid (heldAt H (j + 1) = (decide (y.stamp < x.stamp) && !meetB z x)) := by
        show heldAt H (j + 1) = (decide (y.stamp < x.stamp) && !meetB z x)
        rw [unhide HHA, unhide HX, unhide HT, show j + 1 - 1 = j from by omega, unhide HY, unhide HZ]; simp
      have r0 := fun d os => cell_regrown d0 d os
      have r1 := fun d os => cell_regrown d1 d os
      have r2 := fun d os => cell_regrown d2 d os
      have r3 := fun d os => cell_regrown d3 d os
      have s0 := fun d os => cell_regrown e0 d os
      have s1 := fun d os => cell_regrown e1 d os
      have s2 := fun d os => cell_regrown e2 d os
      have s3 := fun d os => cell_regrown e3 d os
      clear d0 d1 d2 d3 e0 e1 e2 e3
      by_cases hyx : y.stamp < x.stamp
      · have hdx : decide (x.stamp ≤ y.stamp) = false := by simpa using hyx
        cases t3 : meetB z x
        · have HMX : Hid (∀ ww, Calls Try.prog 45 #[.agg #[.int .i64 z.stamp, .int .i64 z.try_, .bool z.share, .bool z.firm], .agg #[.int .i64 x.stamp, .int .i64 x.try_, .bool x.share, .bool x.firm]] ww fun e w' => e = .returned (.bool false) ∧ Below ww.heap.size ww w') := fun ww => by have := meet_any z x ww; rw [t3] at this; exact this
          have HR : Hid (heldAt H (j + 1) = true) := by show heldAt H (j + 1) = true; rw [unhide HHB, t3]; simp [hyx]
          clear t3 hyx
          go_wp2_with fail
          refine wp_region_quiet_below (by kernel_rfl) (by kernel_rfl) ?_
          repeat (go_big_quiet_step ((first | (go_at_call 42; refine Calls.regrown_of (unhide HHX _)) | (go_at_call 45; refine Calls.regrown_of (unhide HMX _)))))
          refine wpQuiet_nil ?_
          intro w9 hw9
          have hb9 : Below wr.heap.size wr w9 := by obtain ⟨p, e⟩ := hw9; exact Below.regionS e
          have HX9 := hide ((unhide HBX).kept hb9)
          have HB9 := hide ((unhide HBR).trans (hb9.mono (unhide HBR).size))
          clear hw9 hb9 p1 q0 q1 q2 q3 r0 r1 r2 r3 s0 s1 s2 s3
          have HS2 : Hid ((List.range (j + 1 + 1)).all (heldAt H) = true) := by
            show (List.range (j + 1 + 1)).all (heldAt H) = true
            refine rg_step (unhide HALL) ?_
            exact unhide HR
          go_wp2_with fail
          go_roundw
          case rel => exact ⟨j + 1 + 1, hlt, by go_num, unhide HS2, unhide HX9, unhide HB9⟩
          case measure => simp [intOf]; omega
        · have HMX : Hid (∀ ww, Calls Try.prog 45 #[.agg #[.int .i64 z.stamp, .int .i64 z.try_, .bool z.share, .bool z.firm], .agg #[.int .i64 x.stamp, .int .i64 x.try_, .bool x.share, .bool x.firm]] ww fun e w' => e = .returned (.bool true) ∧ Below ww.heap.size ww w') := fun ww => by have := meet_any z x ww; rw [t3] at this; exact this
          have HR : Hid (heldAt H (j + 1) = false) := by show heldAt H (j + 1) = false; rw [unhide HHB, t3]; simp
          clear t3 hyx
          go_wp2_with fail
          refine wp_region_quiet_below (by kernel_rfl) (by kernel_rfl) ?_
          repeat (go_big_quiet_step ((first | (go_at_call 42; refine Calls.regrown_of (unhide HHX _)) | (go_at_call 45; refine Calls.regrown_of (unhide HMX _)))))
          refine wpQuiet_nil ?_
          intro w9 hw9
          have hb9 : Below wr.heap.size wr w9 := by obtain ⟨p, e⟩ := hw9; exact Below.regionS e
          have HX9 := hide ((unhide HBX).kept hb9)
          have HB9 := hide ((unhide HBR).trans (hb9.mono (unhide HBR).size))
          clear hw9 hb9 p1 q0 q1 q2 q3 r0 r1 r2 r3 s0 s1 s2 s3
          have HS2 : Hid (lockOkB ⟨slot, H, W⟩ = false) := by
            show lockOkB ⟨slot, H, W⟩ = false
            exact unhide HFH (j + 1) (by omega) (unhide HR)
          go_wp2_with fail
          go_ret
          exact ⟨ret_bool (unhide HS2).symm, unhide HB9⟩
      · have hdx : decide (x.stamp ≤ y.stamp) = true := by simp; omega
        have HR : Hid (heldAt H (j + 1) = false) := by show heldAt H (j + 1) = false; rw [unhide HHB]; simp [hyx]
        clear hyx
        go_wp2_with fail
        refine wp_region_quiet_below (by kernel_rfl) (by kernel_rfl) ?_
        repeat (go_big_quiet_step ((first | (go_at_call 42; refine Calls.regrown_of (unhide HHX _)))))
        refine wpQuiet_nil ?_
        intro w9 hw9
        have hb9 : Below wr.heap.size wr w9 := by obtain ⟨p, e⟩ := hw9; exact Below.regionS e
        have HX9 := hide ((unhide HBX).kept hb9)
        have HB9 := hide ((unhide HBR).trans (hb9.mono (unhide HBR).size))
        clear hw9 hb9 p1 q0 q1 q2 q3 r0 r1 r2 r3 s0 s1 s2 s3
        have HS2 : Hid (lockOkB ⟨slot, H, W⟩ = false) := by
          show lockOkB ⟨slot, H, W⟩ = false
          exact unhide HFH (j + 1) (by omega) (unhide HR)
        go_wp2_with fail
        go_ret
        exact ⟨ret_bool (unhide HS2).symm, unhide HB9⟩
    · have HAH : Hid ((List.range N).all (heldAt H) = true) := by
        have : k = N := by omega
        rw [← this]; exact unhide HALL
      have hkn : ¬ (k : Int) < (N : Int) := by omega
      clear HALL
      go_wp2_with fail
      clear hlt hkn hk
      clear b0 b1 b2
      go_loopw [4] (fun i wr => ∃ k : Nat, k ≤ M ∧ i = .int .i64 k ∧ (List.range k).all (waitsAt H W) = true ∧ Bx wr w.heap.size 25 #[.int .i64 slot, .slice ah N ch, .slice aw M cw] ∧ Below w.heap.size w wr) (fun i _ => M - (intOf i).toNat)
      case atStart => exact ⟨0, Nat.zero_le _, rfl, rfl, unhide HBX, unhide HBR⟩
      case round =>
        clear HBX HBR
        obtain ⟨k, hk, rfl, hall, hbx, hb⟩ := hrel
        have HALL := hide hall
        have HBX := hide hbx
        have HBR := hide hb
        obtain ⟨b0, b1, b2⟩ := hbx.three
        clear hall hbx hb
        by_cases hlt : k < M
        · obtain ⟨bb, off, hae⟩ := (unhide HW).some_of (by rw [unhide HM]; omega)
          subst hae
          obtain ⟨c0, c1, c2, c3⟩ := hd_cells ((unhide HW).kept (unhide HBR)) (i := k) (by rw [unhide HM]; exact hlt)
          have HWA : Hid (waitsAt H W k = (holdOkB (W.getD k Hd.z) && !(W.getD k Hd.z).firm && (decide (k = 0) || decide ((W.getD (k - 1) Hd.z).stamp < (W.getD k Hd.z).stamp)) && H.all (fun h => h.stamp != (W.getD k Hd.z).stamp))) := rfl
          generalize hx : W.getD k Hd.z = x at c0 c1 c2 c3
          have HX := hide hx
          clear hx
          have p2 := fun d os => cell_regrown b2 d os
          have hkI : (k : Int) < (M : Int) := by omega
          have hk0' : (0 : Int) ≤ (k : Int) := by omega
          have q0 := fun d os => cell_regrown c0 d os
          have q1 := fun d os => cell_regrown c1 d os
          have q2 := fun d os => cell_regrown c2 d os
          have q3 := fun d os => cell_regrown c3 d os
          cases t1 : holdOkB x
          · have HHX : Hid (∀ ww, Calls Try.prog 42 #[.agg #[.int .i64 x.stamp, .int .i64 x.try_, .bool x.share, .bool x.firm]] ww fun e w' => e = .returned (.bool false) ∧ Below ww.heap.size ww w') := fun ww => by have := holdOk_any x ww; rw [t1] at this; exact this
            have HT := hide t1
            clear t1
            go_wp2_with fail
            refine wp_region_quiet_below (by kernel_rfl) (by kernel_rfl) ?_
            repeat (go_big_quiet_step ((first | (go_at_call 42; refine Calls.regrown_of (unhide HHX _)))))
            refine wpQuiet_nil ?_
            intro w9 hw9
            have hb9 : Below wr.heap.size wr w9 := by obtain ⟨p, e⟩ := hw9; exact Below.regionS e
            have HX9 := hide ((unhide HBX).kept hb9)
            have HB9 := hide ((unhide HBR).trans (hb9.mono (unhide HBR).size))
            clear hw9 hb9 p2 q0 q1 q2 q3
            have HS2 : Hid (lockOkB ⟨slot, H, W⟩ = false) := by
              show lockOkB ⟨slot, H, W⟩ = false
              refine unhide HFW k (by omega) ?_; rw [unhide HWA, unhide HX, unhide HT]; rfl
            go_wp2_with fail
            go_ret
            exact ⟨ret_bool (unhide HS2).symm, unhide HB9⟩
          have HHX : Hid (∀ ww, Calls Try.prog 42 #[.agg #[.int .i64 x.stamp, .int .i64 x.try_, .bool x.share, .bool x.firm]] ww fun e w' => e = .returned (.bool true) ∧ Below ww.heap.size ww w') := fun ww => by have := holdOk_any x ww; rw [t1] at this; exact this
          have HT := hide t1
          clear t1
          cases t2 : x.firm
          case true =>
            rw [t2] at q3 c3
            rw [t2] at HHX
            have HTF := hide t2
            clear t2
            go_wp2_with fail
            refine wp_region_quiet_below (by kernel_rfl) (by kernel_rfl) ?_
            repeat (go_big_quiet_step ((first | (go_at_call 42; refine Calls.regrown_of (unhide HHX _)))))
            refine wpQuiet_nil ?_
            intro w9 hw9
            have hb9 : Below wr.heap.size wr w9 := by obtain ⟨p, e⟩ := hw9; exact Below.regionS e
            have HX9 := hide ((unhide HBX).kept hb9)
            have HB9 := hide ((unhide HBR).trans (hb9.mono (unhide HBR).size))
            clear hw9 hb9 p2 q0 q1 q2 q3
            have HS2 : Hid (lockOkB ⟨slot, H, W⟩ = false) := by
              show lockOkB ⟨slot, H, W⟩ = false
              refine unhide HFW k (by omega) ?_; rw [unhide HWA, unhide HX, unhide HTF]; simp
            go_wp2_with fail
            go_ret
            exact ⟨ret_bool (unhide HS2).symm, unhide HB9⟩
          rw [t2] at q3 c3
          rw [t2] at HHX
          have HTF := hide t2
          clear t2
          by_cases hk0 : k = 0
          · have HWB : Hid (waitsAt H W k = H.all (fun h => h.stamp != x.stamp)) := by
              show waitsAt H W k = H.all (fun h => h.stamp != x.stamp)
              rw [unhide HWA, unhide HX, unhide HT, unhide HTF, hk0]; rfl
            subst hk0
            clear hkI hk0' c0 c1 c2 c3
            simp only [Nat.zero_mul, Nat.add_zero] at q0 q1 q2 q3
            go_wp2_with fail
            refine wp_region_quiet_below (by kernel_rfl) (by kernel_rfl) ?_
            repeat (go_big_quiet_step ((first | (go_at_call 42; refine Calls.regrown_of (unhide HHX _)))))
            refine wpQuiet_nil ?_
            intro w9 hw9
            have hb9 : Below wr.heap.size wr w9 := by obtain ⟨p, e⟩ := hw9; exact Below.regionS e
            have HX9 := hide ((unhide HBX).kept hb9)
            have HB9 := hide ((unhide HBR).trans (hb9.mono (unhide HBR).size))
            clear hw9 hb9 p2 q0 q1 q2 q3
            have HBX := HX9
            have HBR := HB9
            clear HX9 HB9 b0 b1 b2
            rename World => wo
            go_wp2_with fail
            go_loopw [5] (fun i wr => ∃ j : Nat, j ≤ N ∧ i = .int .i64 j ∧ (H.take j).all (fun h => h.stamp != x.stamp) = true ∧ Bx wr w.heap.size 25 #[.int .i64 slot, .slice ah N ch, .slice (some ⟨bb, off, none⟩) M cw] ∧ Below w.heap.size w wr) (fun i _ => N - (intOf i).toNat)
            case atStart => exact ⟨0, Nat.zero_le _, rfl, rfl, unhide HBX, unhide HBR⟩
            case round =>
              clear HBX HBR
              obtain ⟨j, hj, rfl, hall, hbx, hb⟩ := hrel
              have HAL2 := hide hall
              have HBX := hide hbx
              have HBR := hide hb
              obtain ⟨b0, b1, b2⟩ := hbx.three
              clear hall hbx hb
              obtain ⟨c0, c1, c2, c3⟩ := hd_cells ((unhide HW).kept (unhide HBR)) (i := 0) (by rw [unhide HM]; exact hlt)
              rw [unhide HX] at c0 c1 c2 c3
              rw [unhide HTF] at c3
              simp only [Nat.zero_mul, Nat.add_zero] at c0 c1 c2 c3
              by_cases hjt : j < N
              · obtain ⟨bh, oh, hae⟩ := (unhide HH).some_of (by rw [unhide HN]; omega)
                subst hae
                obtain ⟨d0, d1, d2, d3⟩ := hd_cells ((unhide HH).kept (unhide HBR)) (i := j) (by rw [unhide HN]; exact hjt)
                have hst := all_take_hd (D := H) (p := fun h => h.stamp != x.stamp) (k := j) (by rw [unhide HN]; exact hjt)
                have HFL := hide (fun hp => all_hd_false (D := H) (p := fun h => h.stamp != x.stamp) (k := j) (by rw [unhide HN]; exact hjt) hp)
                generalize H.getD j Hd.z = y at *
                have HST := hide hst
                clear hst
                have hkI : (0 : Int) < (M : Int) := by omega
                have hk0' : (0 : Int) ≤ (0 : Int) := by omega
                have hjI : (j : Int) < (N : Int) := by omega
                have hj0' : (0 : Int) ≤ (j : Int) := by omega
                go_wp2_with fail
                go_quiet (fail)
                rename Nat => nq
                have hbr : Below wr.heap.size wr (wr.drewN nq) := below_drewN (Below.refl _ _) nq
                have HBX2 := hide ((unhide HBX).kept hbr)
                have HB9 := hide ((unhide HBR).trans (hbr.mono (unhide HBR).size))
                clear hbr c0 c1 c2 c3 d0 d1 d2 d3 b0 b1 b2
                by_cases hyx : y.stamp = x.stamp
                · have e1 : (y.stamp == x.stamp) = true := by simpa using hyx
                  have HF : Hid (H.all (fun h => h.stamp != x.stamp) = false) := unhide HFL (by simpa using hyx)
                  have HS2 : Hid (lockOkB ⟨slot, H, W⟩ = false) := by
                    show lockOkB ⟨slot, H, W⟩ = false
                    refine unhide HFW 0 hlt ?_; rw [unhide HWB, unhide HF]
                  clear hyx
                  go_wp2_with fail
                  go_ret
                  exact ⟨ret_bool (unhide HS2).symm, unhide HB9⟩
                · have e1 : (y.stamp == x.stamp) = false := by simpa using hyx
                  have HS2 : Hid ((H.take (j + 1)).all (fun h => h.stamp != x.stamp) = true) := by show (H.take (j + 1)).all (fun h => h.stamp != x.stamp) = true; rw [unhide HST, unhide HAL2]; simpa using hyx
                  clear hyx
                  go_wp2_with fail
                  go_roundw
                  case rel => exact ⟨j + 1, hjt, by go_num, unhide HS2, unhide HBX2, unhide HB9⟩
                  case measure => simp [intOf]; omega
              · have HAW : Hid ((List.range (0 + 1)).all (waitsAt H W) = true) := by
                  have h1 := unhide HAL2
                  rw [List.take_of_length_le (by rw [unhide HN]; omega)] at h1
                  refine rg_step (unhide HALL) ?_
                  rw [unhide HWB, h1]
                have hjn : ¬ (j : Int) < (N : Int) := by omega
                clear c0 c1 c2 c3
                go_wp2_with fail
                go_roundw
                case rel => exact ⟨0 + 1, hlt, by go_num, unhide HAW, unhide HBX, unhide HBR⟩
                case measure => simp [intOf]; omega
          obtain ⟨j, rfl⟩ : ∃ j, k = j + 1 := ⟨k - 1, by omega⟩
          obtain ⟨d0, d1, d2, d3⟩ := hd_cells ((unhide HW).kept (unhide HBR)) (i := j) (by rw [unhide HM]; omega)
          generalize hy : W.getD j Hd.z = y at d0 d1 d2 d3
          have HY := hide hy
          clear hy hk0
          have hjI : (j : Int) < (M : Int) := by omega
          have hj0 : (0 : Int) ≤ (j : Int) := by omega
          have hjI' : (j : Int) + 1 < (M : Int) := by omega
          have HWC : Hid (waitsAt H W (j + 1) = (decide (y.stamp < x.stamp) && H.all (fun h => h.stamp != x.stamp))) := by
            show waitsAt H W (j + 1) = (decide (y.stamp < x.stamp) && H.all (fun h => h.stamp != x.stamp))
            rw [unhide HWA, unhide HX, unhide HT, unhide HTF, show j + 1 - 1 = j from by omega, unhide HY]; simp
          have r0 := fun d os => cell_regrown d0 d os
          have r1 := fun d os => cell_regrown d1 d os
          have r2 := fun d os => cell_regrown d2 d os
          have r3 := fun d os => cell_regrown d3 d os
          clear d0 d1 d2 d3
          by_cases hyx : y.stamp < x.stamp
          · have hdx : decide (x.stamp ≤ y.stamp) = false := by simpa using hyx
            have HWB : Hid (waitsAt H W (j + 1) = H.all (fun h => h.stamp != x.stamp)) := by
              show waitsAt H W (j + 1) = H.all (fun h => h.stamp != x.stamp)
              rw [unhide HWC]; simp [hyx]
            clear hyx
            go_wp2_with fail
            refine wp_region_quiet_below (by kernel_rfl) (by kernel_rfl) ?_
            repeat (go_big_quiet_step ((first | (go_at_call 42; refine Calls.regrown_of (unhide HHX _)))))
            refine wpQuiet_nil ?_
            intro w9 hw9
            have hb9 : Below wr.heap.size wr w9 := by obtain ⟨p, e⟩ := hw9; exact Below.regionS e
            have HX9 := hide ((unhide HBX).kept hb9)
            have HB9 := hide ((unhide HBR).trans (hb9.mono (unhide HBR).size))
            clear hw9 hb9 p2 q0 q1 q2 q3 r0 r1 r2 r3
            obtain ⟨jj, hjj⟩ : ∃ jj, jj = j := ⟨_, rfl⟩
            subst hjj
            have HBX := HX9
            have HBR := HB9
            clear HX9 HB9 b0 b1 b2 hkI hk0' hjI hj0 hjI' c0 c1 c2 c3
            rename World => wo
            go_wp2_with fail
            go_loopw [5] (fun i wr => ∃ j : Nat, j ≤ N ∧ i = .int .i64 j ∧ (H.take j).all (fun h => h.stamp != x.stamp) = true ∧ Bx wr w.heap.size 25 #[.int .i64 slot, .slice ah N ch, .slice (some ⟨bb, off, none⟩) M cw] ∧ Below w.heap.size w wr) (fun i _ => N - (intOf i).toNat)
            case atStart => exact ⟨0, Nat.zero_le _, rfl, rfl, unhide HBX, unhide HBR⟩
            case round =>
              clear HBX HBR
              obtain ⟨j, hj, rfl, hall, hbx, hb⟩ := hrel
              have HAL2 := hide hall
              have HBX := hide hbx
              have HBR := hide hb
              obtain ⟨b0, b1, b2⟩ := hbx.three
              clear hall hbx hb
              obtain ⟨c0, c1, c2, c3⟩ := hd_cells ((unhide HW).kept (unhide HBR)) (i := (jj + 1)) (by rw [unhide HM]; exact hlt)
              rw [unhide HX] at c0 c1 c2 c3
              rw [unhide HTF] at c3
              by_cases hjt : j < N
              · obtain ⟨bh, oh, hae⟩ := (unhide HH).some_of (by rw [unhide HN]; omega)
                subst hae
                obtain ⟨d0, d1, d2, d3⟩ := hd_cells ((unhide HH).kept (unhide HBR)) (i := j) (by rw [unhide HN]; exact hjt)
                have hst := all_take_hd (D := H) (p := fun h => h.stamp != x.stamp) (k := j) (by rw [unhide HN]; exact hjt)
                have HFL := hide (fun hp => all_hd_false (D := H) (p := fun h => h.stamp != x.stamp) (k := j) (by rw [unhide HN]; exact hjt) hp)
                generalize H.getD j Hd.z = y at *
                have HST := hide hst
                clear hst
                have hkI : (jj + 1 : Int) < (M : Int) := by omega
                have hk0' : (0 : Int) ≤ (jj + 1 : Int) := by omega
                have hjI : (j : Int) < (N : Int) := by omega
                have hj0' : (0 : Int) ≤ (j : Int) := by omega
                go_wp2_with fail
                go_quiet (fail)
                rename Nat => nq
                have hbr : Below wr.heap.size wr (wr.drewN nq) := below_drewN (Below.refl _ _) nq
                have HBX2 := hide ((unhide HBX).kept hbr)
                have HB9 := hide ((unhide HBR).trans (hbr.mono (unhide HBR).size))
                clear hbr c0 c1 c2 c3 d0 d1 d2 d3 b0 b1 b2
                by_cases hyx : y.stamp = x.stamp
                · have e1 : (y.stamp == x.stamp) = true := by simpa using hyx
                  have HF : Hid (H.all (fun h => h.stamp != x.stamp) = false) := unhide HFL (by simpa using hyx)
                  have HS2 : Hid (lockOkB ⟨slot, H, W⟩ = false) := by
                    show lockOkB ⟨slot, H, W⟩ = false
                    refine unhide HFW (jj + 1) hlt ?_; rw [unhide HWB, unhide HF]
                  clear hyx
                  go_wp2_with fail
                  go_ret
                  exact ⟨ret_bool (unhide HS2).symm, unhide HB9⟩
                · have e1 : (y.stamp == x.stamp) = false := by simpa using hyx
                  have HS2 : Hid ((H.take (j + 1)).all (fun h => h.stamp != x.stamp) = true) := by show (H.take (j + 1)).all (fun h => h.stamp != x.stamp) = true; rw [unhide HST, unhide HAL2]; simpa using hyx
                  clear hyx
                  go_wp2_with fail
                  go_roundw
                  case rel => exact ⟨j + 1, hjt, by go_num, unhide HS2, unhide HBX2, unhide HB9⟩
                  case measure => simp [intOf]; omega
              · have HAW : Hid ((List.range ((jj + 1) + 1)).all (waitsAt H W) = true) := by
                  have h1 := unhide HAL2
                  rw [List.take_of_length_le (by rw [unhide HN]; omega)] at h1
                  refine rg_step (unhide HALL) ?_
                  rw [unhide HWB, h1]
                have hjn : ¬ (j : Int) < (N : Int) := by omega
                clear c0 c1 c2 c3
                go_wp2_with fail
                go_roundw
                case rel => exact ⟨(jj + 1) + 1, hlt, by go_num, unhide HAW, unhide HBX, unhide HBR⟩
                case measure => simp [intOf]; omega
          · have hdx : decide (x.stamp ≤ y.stamp) = true := by simp; omega
            have HR : Hid (waitsAt H W (j + 1) = false) := by show waitsAt H W (j + 1) = false; rw [unhide HWC]; simp [hyx]
            clear hyx
            go_wp2_with fail
            refine wp_region_quiet_below (by kernel_rfl) (by kernel_rfl) ?_
            repeat (go_big_quiet_step ((first | (go_at_call 42; refine Calls.regrown_of (unhide HHX _)))))
            refine wpQuiet_nil ?_
            intro w9 hw9
            have hb9 : Below wr.heap.size wr w9 := by obtain ⟨p, e⟩ := hw9; exact Below.regionS e
            have HX9 := hide ((unhide HBX).kept hb9)
            have HB9 := hide ((unhide HBR).trans (hb9.mono (unhide HBR).size))
            clear hw9 hb9 p2 q0 q1 q2 q3 r0 r1 r2 r3
            have HS2 : Hid (lockOkB ⟨slot, H, W⟩ = false) := by
              show lockOkB ⟨slot, H, W⟩ = false
              exact unhide HFW (j + 1) (by omega) (unhide HR)
            go_wp2_with fail
            go_ret
            exact ⟨ret_bool (unhide HS2).symm, unhide HB9⟩
        · have HS2 : Hid (lockOkB ⟨slot, H, W⟩ = true) := by
            have : k = M := by omega
            show lockOkB ⟨slot, H, W⟩ = true
            rw [unhide HFIN, unhide HT1, unhide HLE, unhide HAH, ← this, unhide HALL]; rfl
          have hkn : ¬ (k : Int) < (M : Int) := by omega
          go_wp2_with fail
          go_ret
          exact ⟨ret_bool (unhide HS2).symm, unhide HBR⟩

end Go.Proofs.Ytoojnhodjkpecaa
