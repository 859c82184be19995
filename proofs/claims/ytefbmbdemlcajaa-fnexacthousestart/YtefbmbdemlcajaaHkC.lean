/- Locks: how the laws size, copy and compare them. -/
import Derived.Test.YtefbmbdemlcajaaHkB
import Derived.Test.YtefbmbdemlcajaaLkS3
namespace Go.Proofs.Ytefbmbdemlcajaa
open Go.RowKit

theorem Bx.setO {w : World} {g : Nat} {T : TypeId} {cs : Array Value} (h : Bx w g T cs) {b : Nat} (hne : g ≠ b) (j : Nat) (u : Value) : Bx (w.setCell ⟨b, j, none⟩ u) g T cs := ⟨(heap_setCell_other _ _ _ _ hne).trans h.row⟩
theorem Bx.setC {w : World} {g : Nat} {T : TypeId} {cs : Array Value} (h : Bx w g T cs) (j : Nat) (u : Value) : Bx (w.setCell ⟨g, j, none⟩ u) g T (cs.setIfInBounds j u) := ⟨heap_setCell_same _ _ _ _ _ _ h.row⟩
theorem Bx.free3 {w : World} {g : Nat} {T : TypeId} {cs : Array Value} (h : Bx w g T cs) : w.frozen? ⟨g, 0, none⟩ = false ∧ w.frozen? ⟨g, 1, none⟩ = false ∧ w.frozen? ⟨g, 2, none⟩ = false := ⟨h.free 0, h.free 1, h.free 2⟩
theorem Bx.made3 (w : World) (A B C : Obj) {T : TypeId} {cs : Array Value} (hC : C = .cells cs T) : Bx (((w.alloc A).alloc B).alloc C) (w.heap.size + 1 + 1) T cs := by
  subst hC
  exact ⟨heap_alloc3_new _ _ _ _⟩
theorem Bx.made2 (w : World) (A B C : Obj) {T : TypeId} {cs : Array Value} (hB : B = .cells cs T) : Bx (((w.alloc A).alloc B).alloc C) (w.heap.size + 1) T cs := by
  subst hB
  exact ⟨(heap_alloc_old _ _ (by simp)).trans (heap_alloc2_new _ _ _)⟩

def eqLkB (l m : Lk) : Bool := decide (l.slot = m.slot) && eqHds l.held m.held && eqHds l.waits m.waits
theorem eqLkB_self (l : Lk) : eqLkB l l = true := by simp [eqLkB, eqHds_self]

set_option maxRecDepth 100000 in
set_option maxHeartbeats 1000000 in
theorem eqLock_any (l m : Lk) (a b a' b' : Value) (w : World) (h : LkAt w l a b) (h' : LkAt w m a' b') :
    Calls Try.prog 26 #[lkV l a b, lkV m a' b'] w fun e w' => e = .returned (.bool (eqLkB l m)) ∧ Below w.heap.size w w' := by
  obtain ⟨slot, H, W⟩ := l
  obtain ⟨slot', H', W'⟩ := m
  have HFIN : Hid (eqLkB ⟨slot, H, W⟩ ⟨slot', H', W'⟩ = (decide (slot = slot') && eqHds H H' && eqHds W W')) := rfl
  obtain ⟨hvh, hvw⟩ := h
  obtain ⟨hvh', hvw'⟩ := h'
  simp only [lkV] at *
  obtain ⟨a, c, rfl, -⟩ := hvh.shape
  obtain ⟨a1, c1, rfl, -⟩ := hvw.shape
  obtain ⟨a', c', rfl, -⟩ := hvh'.shape
  obtain ⟨a1', c1', rfl, -⟩ := hvw'.shape
  have HH := hide hvh
  have HW := hide hvw
  have HH' := hide hvh'
  have HW' := hide hvw'
  have bA : Below w.heap.size w ((w.alloc (.cells #[.int .i64 slot, .slice a H.length c, .slice a1 W.length c1] 42)).alloc (.cells #[.int .i64 slot', .slice a' H'.length c', .slice a1' W'.length c1'] 42)) := ((Below.refl _ _).alloc (Nat.le_refl _) _).alloc (by simp) _
  have HA := hide bA
  have HX := hide ((Bx.made w 42 #[.int .i64 slot, .slice a H.length c, .slice a1 W.length c1]).allocK (o := .cells #[.int .i64 slot', .slice a' H'.length c', .slice a1' W'.length c1'] 42))
  have HY := hide (Bx.made (w.alloc (.cells #[.int .i64 slot, .slice a H.length c, .slice a1 W.length c1] 42)) 42 #[.int .i64 slot', .slice a' H'.length c', .slice a1' W'.length c1'])
  clear hvh hvw hvh' hvw' bA
  by_cases hv : slot = slot'
  case neg =>
    have hvb : (slot != slot') = true := by simpa using hv
    have HV := hide hv
    clear hv
    go_enter Try.func26, Try.ntmps26
    go_wp2_with fail
    go_ret
    exact ⟨ret_bool (by rw [unhide HFIN]; simp [unhide HV]), unhide HA⟩
  have hvb : (slot != slot') = false := by simpa using hv
  have HV := hide hv
  clear hv
  go_enter Try.func26, Try.ntmps26
  go_wp2_with fail
  refine (eqHds_any _ _ H H' _ ((unhide HH).kept (unhide HA)) ((unhide HH').kept (unhide HA))).mono ?_; rintro e w1 ⟨rfl, hb1⟩
  have HB1 := hide ((unhide HA).trans (hb1.mono (unhide HA).size))
  have HX1 := hide ((unhide HX).kept hb1)
  have HY1 := hide ((unhide HY).kept hb1)
  clear hb1 HX HY
  cases he : eqHds H H'
  · go_wp2_with fail
    go_ret
    exact ⟨ret_bool (by rw [unhide HFIN, he]; simp), unhide HB1⟩
  have HE := hide he
  clear he
  obtain ⟨q0, q1, q2⟩ := (unhide HX1).three
  obtain ⟨r0, r1, r2⟩ := (unhide HY1).three
  simp at r0 r1 r2
  go_wp2_with fail
  refine (eqHds_any _ _ W W' _ ((unhide HW).kept (unhide HB1)) ((unhide HW').kept (unhide HB1))).mono ?_; rintro e w2 ⟨rfl, hb2⟩
  have HB2 := hide ((unhide HB1).trans (hb2.mono (unhide HB1).size))
  clear hb2 q0 q1 q2 r0 r1 r2
  cases he : eqHds W W'
  · go_wp2_with fail
    go_ret
    exact ⟨ret_bool (by rw [unhide HFIN, he]; simp), unhide HB2⟩
  · go_wp2_with fail
    go_ret
    exact ⟨ret_bool (by rw [unhide HFIN, he, unhide HE, unhide HV]; simp), unhide HB2⟩

end Go.Proofs.Ytefbmbdemlcajaa
