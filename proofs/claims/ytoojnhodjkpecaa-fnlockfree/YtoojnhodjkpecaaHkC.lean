/- Locks: how the laws size, copy and compare them. -/
import Derived.Test.YtoojnhodjkpecaaHkB
import Derived.Test.YtoojnhodjkpecaaLkS3
namespace Go.Proofs.Ytoojnhodjkpecaa
open Go.RowKit

set_option maxRecDepth 100000 in
set_option maxHeartbeats 1000000 in
theorem szLock_any (l : Lk) (a b : Value) (w : World) (h : LkAt w l a b) :
    Calls Try.prog 28 #[lkV l a b, .int .i64 1048576] w fun e w' => ∃ r : Int, e = .returned (.int .i64 r) ∧ (r < 0 ∨ (0 ≤ r ∧ l.held.length + l.waits.length ≤ 1048576)) ∧ Below w.heap.size w w' := by
  obtain ⟨slot, H, W⟩ := l
  obtain ⟨hvh, hvw⟩ := h
  simp only [lkV] at *
  obtain ⟨ah, ch, rfl, hlh⟩ := hvh.shape
  obtain ⟨aw, cw, rfl, hlw⟩ := hvw.shape
  clear hvh hvw
  generalize H.length = N at *
  generalize W.length = M at *
  go_enter Try.func28, Try.ntmps28
  go_wp2_with fail
  refine (szHds_any ah N ch 1048576 _ (by omega) (by omega) hlh).mono ?_; rintro e w1 ⟨rfl, rfl⟩
  by_cases h1 : (N : Int) ≤ 1048576
  · rw [if_pos h1]
    go_wp2_with fail
    refine (szHds_any aw M cw (1048576 - (N : Int)) _ (by omega) (by omega) hlw).mono ?_; rintro e w2 ⟨rfl, rfl⟩
    by_cases h2 : (M : Int) ≤ 1048576 - (N : Int)
    · rw [if_pos h2]
      have h3 : ¬ (1048576 - (N : Int) - (M : Int) < 0) := by omega
      go_wp2_with fail
      go_ret
      exact ⟨_, rfl, .inr ⟨by omega, by omega⟩, (Below.refl _ _).alloc (Nat.le_refl _) _⟩
    · rw [if_neg h2]
      go_wp2_with fail
      go_ret
      exact ⟨_, rfl, .inl (by omega), (Below.refl _ _).alloc (Nat.le_refl _) _⟩
  · rw [if_neg h1]
    go_wp2_with fail
    go_ret
    exact ⟨_, rfl, .inl (by omega), (Below.refl _ _).alloc (Nat.le_refl _) _⟩

theorem Bx.setO {w : World} {g : Nat} {T : TypeId} {cs : Array Value} (h : Bx w g T cs) {b : Nat} (hne : g ≠ b) (j : Nat) (u : Value) : Bx (w.setCell ⟨b, j, none⟩ u) g T cs := ⟨(heap_setCell_other _ _ _ _ hne).trans h.row⟩
theorem Bx.setC {w : World} {g : Nat} {T : TypeId} {cs : Array Value} (h : Bx w g T cs) (j : Nat) (u : Value) : Bx (w.setCell ⟨g, j, none⟩ u) g T (cs.setIfInBounds j u) := ⟨heap_setCell_same _ _ _ _ _ _ h.row⟩
theorem Bx.free3 {w : World} {g : Nat} {T : TypeId} {cs : Array Value} (h : Bx w g T cs) : w.frozen? ⟨g, 0, none⟩ = false ∧ w.frozen? ⟨g, 1, none⟩ = false ∧ w.frozen? ⟨g, 2, none⟩ = false := ⟨h.free 0, h.free 1, h.free 2⟩
theorem Bx.made3 (w : World) (A B C : Obj) {T : TypeId} {cs : Array Value} (hC : C = .cells cs T) : Bx (((w.alloc A).alloc B).alloc C) (w.heap.size + 1 + 1) T cs := by
  subst hC
  exact ⟨heap_alloc3_new _ _ _ _⟩
theorem Bx.made2 (w : World) (A B C : Obj) {T : TypeId} {cs : Array Value} (hB : B = .cells cs T) : Bx (((w.alloc A).alloc B).alloc C) (w.heap.size + 1) T cs := by
  subst hB
  exact ⟨(heap_alloc_old _ _ (by simp)).trans (heap_alloc2_new _ _ _)⟩

set_option maxRecDepth 100000 in
set_option maxHeartbeats 4000000 in
theorem toLock_any (l : Lk) (a b : Value) (w : World) (h : LkAt w l a b) (hn : l.held.length ≤ 1048576) (hm : l.waits.length ≤ 1048576) :
    Calls Try.prog 29 #[lkV l a b] w fun e w' => ∃ g1 g2, e = .returned (lkV l (.slice (some ⟨g1, 0, none⟩) l.held.length l.held.length) (.slice (some ⟨g2, 0, none⟩) l.waits.length l.waits.length)) ∧ LkAt w' l (.slice (some ⟨g1, 0, none⟩) l.held.length l.held.length) (.slice (some ⟨g2, 0, none⟩) l.waits.length l.waits.length) ∧ w.heap.size ≤ g1 ∧ g1 < g2 ∧ g2 < w'.heap.size ∧ Room w' g1 (l.held.length * 4) ∧ Room w' g2 (l.waits.length * 4) ∧ Below w.heap.size w w' := by
  obtain ⟨slot, H, W⟩ := l
  obtain ⟨hvh, hvw⟩ := h
  simp only [lkV] at *
  have HI := hide hvh
  have HP := hide hvw
  obtain ⟨a, c, rfl, -⟩ := hvh.shape
  obtain ⟨a1, c1, rfl, -⟩ := hvw.shape
  clear hvh hvw
  go_enter Try.func29, Try.ntmps29
  go_wp2_with fail
  have bA : Below w.heap.size w (((w.alloc (.cells #[.int .i64 slot, .slice a H.length c, .slice a1 W.length c1] 45)).alloc (.cells #[.int .i64 0, .slice none 0 0, .slice none 0 0] 25)).alloc (.cells #[.int .i64 slot, .slice none 0 0, .slice none 0 0] 25)) := (((Below.refl _ _).alloc (Nat.le_refl _) _).alloc (by simp) _).alloc (by simp; omega) _
  refine (toHds_any _ H _ ((unhide HI).kept bA) hn).mono ?_; rintro e w1 ⟨rfl, hi1, hr1, hz1, hb1⟩
  have HA1 := hide ((((Bx.made w 45 #[.int .i64 slot, .slice a H.length c, .slice a1 W.length c1]).allocK (o := .cells #[.int .i64 0, .slice none 0 0, .slice none 0 0] 25)).allocK (o := .cells #[.int .i64 slot, .slice none 0 0, .slice none 0 0] 25)).kept hb1)
  have HR1 := hide ((Bx.made2 w (.cells #[.int .i64 slot, .slice a H.length c, .slice a1 W.length c1] 45) (.cells #[.int .i64 0, .slice none 0 0, .slice none 0 0] 25) (.cells #[.int .i64 slot, .slice none 0 0, .slice none 0 0] 25) rfl).kept hb1)
  have HO1 := hide ((Bx.made3 w (.cells #[.int .i64 slot, .slice a H.length c, .slice a1 W.length c1] 45) (.cells #[.int .i64 0, .slice none 0 0, .slice none 0 0] 25) (.cells #[.int .i64 slot, .slice none 0 0, .slice none 0 0] 25) rfl).kept hb1)
  have HB1 := hide (bA.trans (hb1.mono bA.size))
  simp at hi1 hr1 hz1
  have HI1 := hide hi1
  have HM1 := hide hr1
  obtain ⟨o0, o1, o2⟩ := (unhide HO1).three
  obtain ⟨p0, p1, p2⟩ := (unhide HO1).free3
  obtain ⟨q0, q1, q2⟩ := (unhide HA1).three
  have l1 := (unhide HO1).lt
  clear hi1 hr1 hb1 bA HI
  have HBs := hide ((unhide HB1).setCell (p := ⟨w.heap.size + 1 + 1, 1, none⟩) (by simp; omega) (.slice (some ⟨w.heap.size + 1 + 1 + 1, 0, none⟩) H.length H.length))
  have HAs := hide ((unhide HA1).setO (b := w.heap.size + 1 + 1) (by omega) 1 (.slice (some ⟨w.heap.size + 1 + 1 + 1, 0, none⟩) H.length H.length))
  have HRs := hide ((unhide HR1).setO (b := w.heap.size + 1 + 1) (by omega) 1 (.slice (some ⟨w.heap.size + 1 + 1 + 1, 0, none⟩) H.length H.length))
  have HOs := hide ((unhide HO1).setC 1 (.slice (some ⟨w.heap.size + 1 + 1 + 1, 0, none⟩) H.length H.length))
  have HIs := hide ((unhide HI1).set (g := w.heap.size + 1 + 1) (by simp [Value.ownBlock]) 1 (.slice (some ⟨w.heap.size + 1 + 1 + 1, 0, none⟩) H.length H.length))
  have HMs := hide ((unhide HM1).set ⟨w.heap.size + 1 + 1, 1, none⟩ (.slice (some ⟨w.heap.size + 1 + 1 + 1, 0, none⟩) H.length H.length))
  go_wp2_with fail
  refine (toHds_any _ W _ ((unhide HP).kept (unhide HBs)) hm).mono ?_; rintro e w2 ⟨rfl, hi2, hr2, hz2, hb2⟩
  simp at hi2 hr2 hz2
  have HB2 := hide ((unhide HBs).trans (hb2.mono (unhide HBs).size))
  have HR2 := hide ((unhide HRs).kept hb2)
  have HO2 := hide ((unhide HOs).kept hb2)
  have HI2 := hide ((unhide HIs).kept hb2)
  have HM2 := hide ((unhide HMs).kept hb2)
  have HP2 := hide hi2
  have HN2 := hide hr2
  clear o0 o1 o2 p0 p1 p2 q0 q1 q2 hb2 hi2 hr2 HBs HAs HRs HOs HIs HMs HB1 HA1 HR1 HO1 HI1 HM1
  obtain ⟨o0, o1, o2⟩ := (unhide HO2).three
  obtain ⟨p0, p1, p2⟩ := (unhide HO2).free3
  obtain ⟨q0, q1, q2⟩ := (unhide HR2).three
  obtain ⟨r0, r1, r2⟩ := (unhide HR2).free3
  generalize hG2 : w1.heap.size = G2 at *
  have l2 := (unhide HO2).lt
  have HRz := hide (((((unhide HR2).setO (b := w.heap.size + 1 + 1) (by omega) 2 (.slice (some ⟨G2, 0, none⟩) W.length W.length)).setC 0 (.int .i64 slot)).setC 1 (.slice (some ⟨w.heap.size + 1 + 1 + 1, 0, none⟩) H.length H.length)).setC 2 (.slice (some ⟨G2, 0, none⟩) W.length W.length))
  go_wp2_with fail
  refine bodyPost_ret (results_cell_row rfl _ _ (w.heap.size + 1) _ _ _ _ rfl (unhide HRz).row Try.underlying25 rfl (by kernel_rfl)) rfl ?_
  refine ⟨w.heap.size + 1 + 1 + 1, G2, by simp, ⟨?_, ?_⟩, by omega, hz1, by simpa [World.setCell] using hz2, ((((unhide HM2).set _ _).set _ _).set _ _).set _ _, ((((unhide HN2).set _ _).set _ _).set _ _).set _ _, ((((unhide HB2).setCell (by simp; omega) _).setCell (by simp) _).setCell (by simp) _).setCell (by simp) _⟩
  · exact ((((unhide HI2).set (by simp [Value.ownBlock]) _ _).set (by simp [Value.ownBlock]; omega) _ _).set (by simp [Value.ownBlock]; omega) _ _).set (by simp [Value.ownBlock]; omega) _ _
  · exact ((((unhide HP2).set (by simp [Value.ownBlock]; omega) _ _).set (by simp [Value.ownBlock]; omega) _ _).set (by simp [Value.ownBlock]; omega) _ _).set (by simp [Value.ownBlock]; omega) _ _

def eqLkB (l m : Lk) : Bool := decide (l.slot = m.slot) && eqHds l.held m.held && eqHds l.waits m.waits
theorem eqLkB_self (l : Lk) : eqLkB l l = true := by simp [eqLkB, eqHds_self]

set_option maxRecDepth 100000 in
set_option maxHeartbeats 1000000 in
theorem eqLock_any (l m : Lk) (a b a' b' : Value) (w : World) (h : LkAt w l a b) (h' : LkAt w m a' b') :
    Calls Try.prog 30 #[lkV l a b, lkV m a' b'] w fun e w' => e = .returned (.bool (eqLkB l m)) ∧ Below w.heap.size w w' := by
  obtain ⟨slot, H, W⟩ := l
  obtain ⟨slot', H', W'⟩ := m
  have HFIN : Hid (eqLkB ⟨slot, H, W⟩ ⟨slot', H', W'⟩ = (decide (slot = slot') && eqHds H H' && eqHds W W')) := rfl
  obtain ⟨hvh, hvw⟩ := h
  obtain ⟨hvh', hvw'⟩ := h'
  simp only [lkV] at *
  obtain ⟨a, c, rfl, -⟩ := hvh.shape
  obtain ⟨a1, c1, rfl, -⟩ := hvw.shape
  obtain ⟨a', c', rfl, -⟩ := hvh'.shape
  obtain ⟨a1', c1', rfl, -⟩ := hvw'.shape
  have HH := hide hvh
  have HW := hide hvw
  have HH' := hide hvh'
  have HW' := hide hvw'
  have bA : Below w.heap.size w ((w.alloc (.cells #[.int .i64 slot, .slice a H.length c, .slice a1 W.length c1] 25)).alloc (.cells #[.int .i64 slot', .slice a' H'.length c', .slice a1' W'.length c1'] 25)) := ((Below.refl _ _).alloc (Nat.le_refl _) _).alloc (by simp) _
  have HA := hide bA
  have HX := hide ((Bx.made w 25 #[.int .i64 slot, .slice a H.length c, .slice a1 W.length c1]).allocK (o := .cells #[.int .i64 slot', .slice a' H'.length c', .slice a1' W'.length c1'] 25))
  have HY := hide (Bx.made (w.alloc (.cells #[.int .i64 slot, .slice a H.length c, .slice a1 W.length c1] 25)) 25 #[.int .i64 slot', .slice a' H'.length c', .slice a1' W'.length c1'])
  clear hvh hvw hvh' hvw' bA
  by_cases hv : slot = slot'
  case neg =>
    have hvb : (slot != slot') = true := by simpa using hv
    have HV := hide hv
    clear hv
    go_enter Try.func30, Try.ntmps30
    go_wp2_with fail
    go_ret
    exact ⟨ret_bool (by rw [unhide HFIN]; simp [unhide HV]), unhide HA⟩
  have hvb : (slot != slot') = false := by simpa using hv
  have HV := hide hv
  clear hv
  go_enter Try.func30, Try.ntmps30
  go_wp2_with fail
  refine (eqHds_any _ _ H H' _ ((unhide HH).kept (unhide HA)) ((unhide HH').kept (unhide HA))).mono ?_; rintro e w1 ⟨rfl, hb1⟩
  have HB1 := hide ((unhide HA).trans (hb1.mono (unhide HA).size))
  have HX1 := hide ((unhide HX).kept hb1)
  have HY1 := hide ((unhide HY).kept hb1)
  clear hb1 HX HY
  cases he : eqHds H H'
  · go_wp2_with fail
    go_ret
    exact ⟨ret_bool (by rw [unhide HFIN, he]; simp), unhide HB1⟩
  have HE := hide he
  clear he
  obtain ⟨q0, q1, q2⟩ := (unhide HX1).three
  obtain ⟨r0, r1, r2⟩ := (unhide HY1).three
  simp at r0 r1 r2
  go_wp2_with fail
  refine (eqHds_any _ _ W W' _ ((unhide HW).kept (unhide HB1)) ((unhide HW').kept (unhide HB1))).mono ?_; rintro e w2 ⟨rfl, hb2⟩
  have HB2 := hide ((unhide HB1).trans (hb2.mono (unhide HB1).size))
  clear hb2 q0 q1 q2 r0 r1 r2
  cases he : eqHds W W'
  · go_wp2_with fail
    go_ret
    exact ⟨ret_bool (by rw [unhide HFIN, he]; simp), unhide HB2⟩
  · go_wp2_with fail
    go_ret
    exact ⟨ret_bool (by rw [unhide HFIN, he, unhide HE, unhide HV]; simp), unhide HB2⟩

end Go.Proofs.Ytoojnhodjkpecaa
