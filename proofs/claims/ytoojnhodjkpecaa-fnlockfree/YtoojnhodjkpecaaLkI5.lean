/- The program says whether a lock is ok. -/
import Derived.Test.YtoojnhodjkpecaaLkI4
namespace Go.Proofs.Ytoojnhodjkpecaa
open Go.RowKit Go.Shelf

def lockOkI (l : Lk) : Bool := inB l.slot 0 7 && (decide (l.held.length + l.waits.length ≤ 16) && (holdsB l.held && (holdsB l.waits && (heldOkB l.held && waitsOkB l.waits l.held))))

set_option maxRecDepth 100000 in
set_option maxHeartbeats 2000000 in
theorem lockOkI_any (l : Lk) (a b : Value) (w : World) (hv : LkAt w l a b) (hn : l.held.length ≤ 1048576) (hm : l.waits.length ≤ 1048576) :
    Calls Try.prog 21 #[lkV l a b] w fun e w' => e = .returned (.bool (lockOkI l)) ∧ Below w.heap.size w w' := by
  obtain ⟨slot, H, W⟩ := l
  obtain ⟨hvh, hvw⟩ := hv
  simp only [lkV] at *
  obtain ⟨ah, ch, rfl, hlh⟩ := hvh.shape
  obtain ⟨aw, cw, rfl, hlw⟩ := hvw.shape
  have HH := hide hvh
  have HW := hide hvw
  clear hlh hlw hvh hvw
  have HFIN : Hid (lockOkI ⟨slot, H, W⟩ = (inB slot 0 7 && (decide (H.length + W.length ≤ 16) && (holdsB H && (holdsB W && (heldOkB H && waitsOkB W H)))))) := rfl
  generalize hN : H.length = N at *
  have HN := hide hN
  clear hN
  generalize hM : W.length = M at *
  have HM := hide hM
  clear hM
  obtain ⟨bx, hbx⟩ : ∃ bx, bx = w.alloc (.cells #[.int .i64 slot, .slice ah N ch, .slice aw M cw] 25) := ⟨_, rfl⟩
  have HBX : Hid (Bx bx w.heap.size 25 #[.int .i64 slot, .slice ah N ch, .slice aw M cw]) := by rw [hbx]; exact Bx.made w _ _
  have HB0 : Hid (Below w.heap.size w bx) := by rw [hbx]; exact (Below.refl _ _).alloc (Nat.le_refl _) _
  have HBE := hide hbx
  clear hbx
  cases t1 : inB slot 0 7
  · go_enter Try.func21, Try.ntmps21
    go_wp2_with fail
    refine (isSlot_any slot _).mono ?_
    rw [t1]
    rintro e w1 ⟨rfl, rfl⟩
    go_wp2_with fail
    go_ret
    exact ⟨ret_bool (by rw [unhide HFIN, t1]; rfl), (Below.refl _ _).alloc (Nat.le_refl _) _⟩
  by_cases hnm : N + M ≤ 16
  case neg =>
    have hgt : (16 : Int) < (N : Int) + (M : Int) := by omega
    go_enter Try.func21, Try.ntmps21
    go_wp2_with fail
    refine (isSlot_any slot _).mono ?_
    rw [t1]
    rintro e w1 ⟨rfl, rfl⟩
    go_wp2_with fail
    go_ret
    exact ⟨ret_bool (by rw [unhide HFIN, t1]; simp [hnm]), (Below.refl _ _).alloc (Nat.le_refl _) _⟩
  have hle : ¬ (16 : Int) < (N : Int) + (M : Int) := by omega
  have HLE : Hid (decide (N + M ≤ 16) = true) := by show decide (N + M ≤ 16) = true; simpa using hnm
  go_enter Try.func21, Try.ntmps21
  go_wp2_with fail
  refine (isSlot_any slot _).mono ?_
  rw [t1]
  rintro e w1 ⟨rfl, rfl⟩
  rw [← unhide HBE]
  obtain ⟨q0, q1, q2⟩ := (unhide HBX).three
  go_wp2_with fail
  refine (holdsOk_any _ H _ ((unhide HH).kept (unhide HB0))).mono ?_
  rintro e w1 ⟨rfl, hb1⟩
  obtain ⟨r0, r1, r2⟩ := ((unhide HBX).kept hb1).three
  have HX1 := hide ((unhide HBX).kept hb1)
  have HB1 := hide ((unhide HB0).trans (hb1.mono (unhide HB0).size))
  clear hb1 q0 q1 q2 HB0
  cases t2 : holdsB H
  · go_wp2_with fail
    go_ret
    exact ⟨ret_bool (by rw [unhide HFIN, t1, unhide HLE, t2]; rfl), unhide HB1⟩
  go_wp2_with fail
  refine (holdsOk_any _ W _ ((unhide HW).kept (unhide HB1))).mono ?_
  rintro e w2 ⟨rfl, hb2⟩
  have HX2 := hide ((unhide HX1).kept hb2)
  obtain ⟨q0, q1, q2⟩ := (unhide HX2).three
  have HB2 := hide ((unhide HB1).trans (hb2.mono (unhide HB1).size))
  clear hb2 r0 r1 r2 HX1 HB1
  cases t3 : holdsB W
  · go_wp2_with fail
    go_ret
    exact ⟨ret_bool (by rw [unhide HFIN, t1, unhide HLE, t2, t3]; rfl), unhide HB2⟩
  go_wp2_with fail
  refine (heldOk_any _ H _ ((unhide HH).kept (unhide HB2))).mono ?_
  rintro e w3 ⟨rfl, hb3⟩
  have HX3 := hide ((unhide HX2).kept hb3)
  obtain ⟨r0, r1, r2⟩ := (unhide HX3).three
  have HB3 := hide ((unhide HB2).trans (hb3.mono (unhide HB2).size))
  clear hb3 q0 q1 q2 HX2 HB2
  cases t4 : heldOkB H
  · go_wp2_with fail
    go_ret
    exact ⟨ret_bool (by rw [unhide HFIN, t1, unhide HLE, t2, t3, t4]; rfl), unhide HB3⟩
  go_wp2_with fail
  refine (waitsOk_any _ _ W H _ ((unhide HW).kept (unhide HB3)) ((unhide HH).kept (unhide HB3))).mono ?_
  rintro e w4 ⟨rfl, hb4⟩
  have HB4 := hide ((unhide HB3).trans (hb4.mono (unhide HB3).size))
  clear hb4
  go_wp2_with fail
  go_ret
  exact ⟨ret_bool (by rw [unhide HFIN, t1, unhide HLE, t2, t3, t4]; rfl), unhide HB4⟩

end Go.Proofs.Ytoojnhodjkpecaa
