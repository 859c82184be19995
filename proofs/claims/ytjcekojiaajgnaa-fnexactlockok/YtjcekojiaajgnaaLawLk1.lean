/- The law FnExactLockOk answers true. -/
import Derived.Test.YtjcekojiaajgnaaHkC
import Derived.Test.YtjcekojiaajgnaaLkM1
import Derived.Test.YtjcekojiaajgnaaLkS6
namespace Go.Proofs.Ytjcekojiaajgnaa
open Go.RowKit

set_option maxRecDepth 100000 in
set_option maxHeartbeats 4000000 in
theorem lawLockOk_any (l : Lk) (a b : Value) (w : World) (h : LkAt w l a b) :
    Calls Try.prog 11 #[lkV l a b] w fun e w' => e = .returned (.bool true) ∧ Below w.heap.size w w' := by
  have HU := hide h
  have hshape : ∃ a0 c0 a1 c1, a = .slice a0 l.held.length c0 ∧ b = .slice a1 l.waits.length c1 := by
    obtain ⟨a0, c0, rfl, -⟩ := h.held.shape
    obtain ⟨a1, c1, rfl, -⟩ := h.waits.shape
    exact ⟨a0, c0, a1, c1, rfl, rfl⟩
  obtain ⟨a0, c0, a1, c1, rfl, rfl⟩ := hshape
  have HSZ := hide (fun ww hk => szLock_any l (.slice a0 l.held.length c0) (.slice a1 l.waits.length c1) ww hk)
  have HTO := hide (fun ww hk hn hm => toLock_any l (.slice a0 l.held.length c0) (.slice a1 l.waits.length c1) ww hk hn hm)
  have HSP := hide (fun x y ww hk hn hm => lockOk_any l x y ww hk hn hm)
  have HIM := hide (fun x y ww hk hn hm => lockOkI_any l x y ww hk hn hm)
  rw [lockOk_eq] at HIM
  have HEQ := hide (fun x y x' y' ww hk hk' => eqLock_any l l x y x' y' ww hk hk')
  rw [eqLkB_self] at HEQ
  have hok : (lockOkB l != lockOkB l) = false := by simp
  generalize lockOkB l = B at *
  obtain ⟨slot, H, W⟩ := l
  simp only [lkV] at *
  have bA : Below w.heap.size w (w.alloc (.cells #[.int .i64 slot, .slice a0 H.length c0, .slice a1 W.length c1] 45)) := (Below.refl _ _).alloc (Nat.le_refl _) _
  have HA := hide bA
  have HX := hide (Bx.made w 45 #[.int .i64 slot, .slice a0 H.length c0, .slice a1 W.length c1])
  clear h bA
  go_enter Try.func11, Try.ntmps11
  go_wp2_with fail
  refine (unhide HSZ _ ((unhide HU).kept (unhide HA))).mono ?_; rintro e w1 ⟨r, rfl, hr, hb1⟩
  have HB1 := hide ((unhide HA).trans (hb1.mono (unhide HA).size))
  have HX1 := hide ((unhide HX).kept hb1)
  have HR := hide hr
  clear hb1 HX hr
  by_cases hr0 : r < 0
  · go_wp2_with fail
    go_ret
    exact ⟨rfl, unhide HB1⟩
  have hfit : H.length + W.length ≤ 1048576 := by
    rcases unhide HR with h | h
    · omega
    · exact h.2
  have HFN : Hid (H.length ≤ 1048576) := by show H.length ≤ 1048576; omega
  have HFM : Hid (W.length ≤ 1048576) := by show W.length ≤ 1048576; omega
  clear hfit
  obtain ⟨q0, q1, q2⟩ := (unhide HX1).three
  go_wp2_with fail
  refine (unhide HTO _ ((unhide HU).kept (unhide HB1)) (unhide HFN) (unhide HFM)).mono ?_; rintro e w2 ⟨x1, x2, rfl, hk2, -, -, -, -, -, hb2⟩
  have HB2 := hide ((unhide HB1).trans (hb2.mono (unhide HB1).size))
  have HX2 := hide ((unhide HX1).kept hb2)
  have HK2 := hide hk2
  clear hb2 hk2 HX1 q0 q1 q2
  go_wp2_with fail
  refine (unhide HSP _ _ _ (unhide HK2) (unhide HFN) (unhide HFM)).mono ?_; rintro e w3 ⟨rfl, hb3⟩
  have HB3 := hide ((unhide HB2).trans (hb3.mono (unhide HB2).size))
  have HX3 := hide ((unhide HX2).kept hb3)
  clear hb3 HX2 HK2
  obtain ⟨q0, q1, q2⟩ := (unhide HX3).three
  go_wp2_with fail
  refine (unhide HTO _ ((unhide HU).kept (unhide HB3)) (unhide HFN) (unhide HFM)).mono ?_; rintro e w4 ⟨y1, y2, rfl, hk4, -, -, -, -, -, hb4⟩
  have HO4 := hide (Bx.made w4 25 #[.int .i64 slot, .slice (some ⟨y1, 0, none⟩) H.length H.length, .slice (some ⟨y2, 0, none⟩) W.length W.length])
  have bB : Below w4.heap.size w4 (w4.alloc (.cells #[.int .i64 slot, .slice (some ⟨y1, 0, none⟩) H.length H.length, .slice (some ⟨y2, 0, none⟩) W.length W.length] 25)) := (Below.refl _ _).alloc (Nat.le_refl _) _
  have b4 := (unhide HB3).trans (hb4.mono (unhide HB3).size)
  have HB4 := hide (b4.trans (bB.mono b4.size))
  have HX4 := hide (((unhide HX3).kept hb4).kept bB)
  have HK4 := hide (hk4.kept bB)
  have lx4 := ((unhide HX3).kept hb4).lt
  clear hb4 hk4 bB b4 HX3 q0 q1 q2
  go_wp2_with fail
  refine (unhide HIM _ _ _ (unhide HK4) (unhide HFN) (unhide HFM)).mono ?_; rintro e w5 ⟨rfl, hb5⟩
  have HB5 := hide ((unhide HB4).trans (hb5.mono (unhide HB4).size))
  have HX5 := hide ((unhide HX4).kept hb5)
  have HO5 := hide ((unhide HO4).kept hb5)
  have HK5 := hide ((unhide HK4).kept hb5)
  have lx5 := (unhide HX5).lt
  have lo5 := (unhide HO5).lt
  clear hb5 HX4 HO4 HK4
  obtain ⟨q0, q1, q2⟩ := (unhide HX5).three
  obtain ⟨o0, o1, o2⟩ := (unhide HO5).three
  go_wp2_with fail
  go_region_with (first
    | (go_at_call 29; refine (unhide HTO _ ((unhide HU).kept (unhide HB5).drew) (unhide HFN) (unhide HFM)).mono ?_; rintro e w6 ⟨z1, z2, rfl, hk6, -, -, -, -, -, hb6⟩; have hb6' : Below w5.heap.size w5 w6 := ((Below.refl _ _).drew).trans hb6; have o0' := cell_kept hb6' o0; have o1' := cell_kept hb6' o1; have o2' := cell_kept hb6' o2; have HK6 := hide hk6; have HB6 := hide hb6'; clear hk6 hb6 hb6')
    | (go_at_call 30; refine (unhide HEQ _ _ _ _ _ ((unhide HK5).kept (unhide HB6)) (unhide HK6)).mono ?_; rintro e w7 ⟨rfl, hb7⟩))
  all_goals go_wp2_with fail
  all_goals go_ret
  all_goals
    have b6 := (unhide HB5).trans ((unhide HB6).mono (unhide HB5).size)
    exact ⟨rfl, b6.trans (hb7.mono b6.size)⟩

end Go.Proofs.Ytjcekojiaajgnaa
