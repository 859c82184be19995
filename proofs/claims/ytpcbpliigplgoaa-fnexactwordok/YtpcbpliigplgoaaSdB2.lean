/- Books: how the laws copy and compare them. -/
import Derived.Test.YtpcbpliigplgoaaSdB
namespace Go.Proofs.Ytpcbpliigplgoaa
open Go.RowKit

theorem Box.setO {w : World} {g : Nat} {T : TypeId} {cs : Array Value} (h : Box w g T cs) {b : Nat} (hne : g ≠ b) (j : Nat) (u : Value) : Box (w.setCell ⟨b, j, none⟩ u) g T cs := ⟨(heap_setCell_other _ _ _ _ hne).trans h.row⟩
theorem Box.setC {w : World} {g : Nat} {T : TypeId} {cs : Array Value} (h : Box w g T cs) (j : Nat) (u : Value) : Box (w.setCell ⟨g, j, none⟩ u) g T (cs.setIfInBounds j u) := ⟨heap_setCell_same _ _ _ _ _ _ h.row⟩
theorem Box.free5 {w : World} {g : Nat} {T : TypeId} {cs : Array Value} (h : Box w g T cs) : w.frozen? ⟨g, 0, none⟩ = false ∧ w.frozen? ⟨g, 1, none⟩ = false ∧ w.frozen? ⟨g, 2, none⟩ = false ∧ w.frozen? ⟨g, 3, none⟩ = false ∧ w.frozen? ⟨g, 4, none⟩ = false := ⟨h.free 0, h.free 1, h.free 2, h.free 3, h.free 4⟩
theorem Box.made3 (w : World) (A B C : Obj) {T : TypeId} {cs : Array Value} (hC : C = .cells cs T) : Box (((w.alloc A).alloc B).alloc C) (w.heap.size + 1 + 1) T cs := by
  subst hC
  exact ⟨heap_alloc3_new _ _ _ _⟩
theorem Box.made2 (w : World) (A B C : Obj) {T : TypeId} {cs : Array Value} (hB : B = .cells cs T) : Box (((w.alloc A).alloc B).alloc C) (w.heap.size + 1) T cs := by
  subst hB
  exact ⟨(heap_alloc_old _ _ (by simp)).trans (heap_alloc2_new _ _ _)⟩

set_option maxRecDepth 100000 in
set_option maxHeartbeats 4000000 in
theorem toBooks_any (t v : Int) (u st sd : Value) (L : List Int) (ps : List Pr) (ss : List Sd) (w : World) (h : BkAt w u st sd L ps ss) (hf : BkFit L ps ss) :
    Calls Try.prog 12 #[.agg #[.int .i64 t, .int .i64 v, u, st, sd]] w fun e w' => ∃ g1 g2 g3, e = .returned (.agg #[.int .i64 t, .int .i64 v, .slice (some ⟨g1, 0, none⟩) L.length L.length, .slice (some ⟨g2, 0, none⟩) ps.length ps.length, .slice (some ⟨g3, 0, none⟩) ss.length ss.length]) ∧ BkAt w' (.slice (some ⟨g1, 0, none⟩) L.length L.length) (.slice (some ⟨g2, 0, none⟩) ps.length ps.length) (.slice (some ⟨g3, 0, none⟩) ss.length ss.length) L ps ss ∧ Below w.heap.size w w' := by
  have HF := hide hf
  have HI := hide h.ins
  have HP := hide h.prs
  have HS := hide h.sds
  obtain ⟨a, c, rfl, -⟩ := h.ins.slice
  obtain ⟨a1, c1, rfl, -⟩ := h.prs.shape
  obtain ⟨a2, c2, rfl, -⟩ := h.sds.shape
  clear h hf
  go_enter Try.func12, Try.ntmps12
  go_wp2_with fail
  have bA : Below w.heap.size w (((w.alloc (.cells #[.int .i64 t, .int .i64 v, .slice a L.length c, .slice a1 ps.length c1, .slice a2 ss.length c2] 41)).alloc (.cells #[.int .i64 0, .int .i64 0, .slice none 0 0, .slice none 0 0, .slice none 0 0] 47)).alloc (.cells #[.int .i64 t, .int .i64 0, .slice none 0 0, .slice none 0 0, .slice none 0 0] 47)) := (((Below.refl _ _).alloc (Nat.le_refl _) _).alloc (by simp) _).alloc (by simp; omega) _
  refine (toMap_any v _ L _ ((unhide HI).kept bA) (unhide HF).l).mono ?_; rintro e w1 ⟨g1, rfl, hi1, ho1, hb1⟩
  have HA1 := hide ((((Box.made w 41 #[.int .i64 t, .int .i64 v, .slice a L.length c, .slice a1 ps.length c1, .slice a2 ss.length c2]).alloc (.cells #[.int .i64 0, .int .i64 0, .slice none 0 0, .slice none 0 0, .slice none 0 0] 47)).alloc (.cells #[.int .i64 t, .int .i64 0, .slice none 0 0, .slice none 0 0, .slice none 0 0] 47)).kept hb1)
  have HR1 := hide ((Box.made2 w (.cells #[.int .i64 t, .int .i64 v, .slice a L.length c, .slice a1 ps.length c1, .slice a2 ss.length c2] 41) (.cells #[.int .i64 0, .int .i64 0, .slice none 0 0, .slice none 0 0, .slice none 0 0] 47) (.cells #[.int .i64 t, .int .i64 0, .slice none 0 0, .slice none 0 0, .slice none 0 0] 47) rfl).kept hb1)
  have HO1 := hide ((Box.made3 w (.cells #[.int .i64 t, .int .i64 v, .slice a L.length c, .slice a1 ps.length c1, .slice a2 ss.length c2] 41) (.cells #[.int .i64 0, .int .i64 0, .slice none 0 0, .slice none 0 0, .slice none 0 0] 47) (.cells #[.int .i64 t, .int .i64 0, .slice none 0 0, .slice none 0 0, .slice none 0 0] 47) rfl).kept hb1)
  have HB1 := hide (bA.trans (hb1.mono bA.size))
  have hg1 : w.heap.size + 1 + 1 < g1 := by
    rcases ho1 with ⟨h, _⟩ | ⟨g, cap, h, hl, _⟩
    · simp at h
    · simp at h hl; omega
  have HI1 := hide hi1
  obtain ⟨o0, o1, o2, o3, o4⟩ := (unhide HO1).five
  obtain ⟨p0, p1, p2, p3, p4⟩ := (unhide HO1).free5
  obtain ⟨q0, q1, q2, q3, q4⟩ := (unhide HA1).five
  have l1 := (unhide HO1).lt
  have HBs := hide (((unhide HB1).setCell (p := ⟨w.heap.size + 1 + 1, 1, none⟩) (by simp; omega) (.int .i64 v)).setCell (p := ⟨w.heap.size + 1 + 1, 2, none⟩) (by simp; omega) (.slice (some ⟨g1, 0, none⟩) L.length L.length))
  have HAs := hide (((unhide HA1).setO (b := w.heap.size + 1 + 1) (by omega) 1 (.int .i64 v)).setO (b := w.heap.size + 1 + 1) (by omega) 2 (.slice (some ⟨g1, 0, none⟩) L.length L.length))
  have HRs := hide (((unhide HR1).setO (b := w.heap.size + 1 + 1) (by omega) 1 (.int .i64 v)).setO (b := w.heap.size + 1 + 1) (by omega) 2 (.slice (some ⟨g1, 0, none⟩) L.length L.length))
  have HOs := hide (((unhide HO1).setC 1 (.int .i64 v)).setC 2 (.slice (some ⟨g1, 0, none⟩) L.length L.length))
  have HIs := hide (((unhide HI1).set (g := w.heap.size + 1 + 1) (by simp [Value.ownBlock]; omega) 1 (.int .i64 v)).set (g := w.heap.size + 1 + 1) (by simp [Value.ownBlock]; omega) 2 (.slice (some ⟨g1, 0, none⟩) L.length L.length))
  clear hi1 ho1 hb1 bA HI
  go_wp2_with fail
  refine (toPrs_any _ ps _ ((unhide HP).kept (unhide HBs)) (unhide HF).p).mono ?_; rintro e w2 ⟨rfl, hi2, -, hz2, hb2⟩
  simp at hi2 hz2
  have HB2 := hide ((unhide HBs).trans (hb2.mono (unhide HBs).size))
  have HA2 := hide ((unhide HAs).kept hb2)
  have HR2 := hide ((unhide HRs).kept hb2)
  have HO2 := hide ((unhide HOs).kept hb2)
  have HI2 := hide ((unhide HIs).kept hb2)
  have HP2 := hide hi2
  clear o0 o1 o2 o3 o4 p0 p1 p2 p3 p4 q0 q1 q2 q3 q4 hb2 hi2 HBs HAs HRs HOs HIs HB1 HA1 HR1 HO1 HI1
  obtain ⟨o0, o1, o2, o3, o4⟩ := (unhide HO2).five
  obtain ⟨p0, p1, p2, p3, p4⟩ := (unhide HO2).free5
  obtain ⟨q0, q1, q2, q3, q4⟩ := (unhide HA2).five
  generalize hG2 : w1.heap.size = G2 at *
  have lG2 : w.heap.size + 1 + 1 < G2 := l1
  have l2 := (unhide HO2).lt
  have HBs := hide ((unhide HB2).setCell (p := ⟨w.heap.size + 1 + 1, 3, none⟩) (by simp; omega) (.slice (some ⟨G2, 0, none⟩) ps.length ps.length))
  have HAs := hide ((unhide HA2).setO (b := w.heap.size + 1 + 1) (by omega) 3 (.slice (some ⟨G2, 0, none⟩) ps.length ps.length))
  have HRs := hide ((unhide HR2).setO (b := w.heap.size + 1 + 1) (by omega) 3 (.slice (some ⟨G2, 0, none⟩) ps.length ps.length))
  have HOs := hide ((unhide HO2).setC 3 (.slice (some ⟨G2, 0, none⟩) ps.length ps.length))
  have HIs := hide ((unhide HI2).set (g := w.heap.size + 1 + 1) (by simp [Value.ownBlock]; omega) 3 (.slice (some ⟨G2, 0, none⟩) ps.length ps.length))
  have HPs := hide ((unhide HP2).setFar (g := w.heap.size + 1 + 1) (by simp [Value.ownBlock]; omega) 3 (.slice (some ⟨G2, 0, none⟩) ps.length ps.length))
  go_wp2_with fail
  refine (toSds_any _ ss _ ((unhide HS).kept (unhide HBs)) (unhide HF).s (unhide HF).f).mono ?_; rintro e w3 ⟨rfl, hi3, hz3, hb3⟩
  simp at hi3 hz3
  have HB3 := hide ((unhide HBs).trans (hb3.mono (unhide HBs).size))
  have HR3 := hide ((unhide HRs).kept hb3)
  have HO3 := hide ((unhide HOs).kept hb3)
  have HI3 := hide ((unhide HIs).kept hb3)
  have HP3 := hide ((unhide HPs).kept hb3)
  have HS3 := hide hi3
  clear o0 o1 o2 o3 o4 p0 p1 p2 p3 p4 q0 q1 q2 q3 q4 hb3 hi3 HBs HAs HRs HOs HIs HPs HB2 HA2 HR2 HO2 HI2 HP2
  obtain ⟨o0, o1, o2, o3, o4⟩ := (unhide HO3).five
  obtain ⟨p0, p1, p2, p3, p4⟩ := (unhide HO3).free5
  obtain ⟨q0, q1, q2, q3, q4⟩ := (unhide HR3).five
  obtain ⟨r0, r1, r2, r3, r4⟩ := (unhide HR3).free5
  generalize hG3 : w2.heap.size = G3 at *
  have lG3 : w.heap.size + 1 + 1 < G3 := l2
  go_wp2_with fail
  have HRz := (((((((unhide HR3).setO (b := w.heap.size + 1 + 1) (by omega) 4 (.slice (some ⟨G3, 0, none⟩) ss.length ss.length)).setC 0 (.int .i64 t)).setC 1 (.int .i64 v)).setC 2 (.slice (some ⟨g1, 0, none⟩) L.length L.length)).setC 3 (.slice (some ⟨G2, 0, none⟩) ps.length ps.length)).setC 4 (.slice (some ⟨G3, 0, none⟩) ss.length ss.length))
  refine bodyPost_ret (results_cell_row rfl _ _ (w.heap.size + 1) _ _ _ _ rfl HRz.row Try.underlying47 rfl (by kernel_rfl)) rfl ?_
  refine ⟨g1, G2, G3, by simp, ⟨?_, ?_, SdOwn.at ?_ (unhide HF).s⟩, ((((((unhide HB3).setCell (by simp; omega) _).setCell (by simp) _).setCell (by simp) _).setCell (by simp) _).setCell (by simp) _).setCell (by simp) _⟩
  · exact ((((((unhide HI3).set (by simp [Value.ownBlock]; omega) _ _).set (by simp [Value.ownBlock]; omega) _ _).set (by simp [Value.ownBlock]; omega) _ _).set (by simp [Value.ownBlock]; omega) _ _).set (by simp [Value.ownBlock]; omega) _ _).set (by simp [Value.ownBlock]; omega) _ _
  · exact ((((((unhide HP3).setFar (by simp [Value.ownBlock]; omega) _ _).setFar (by simp [Value.ownBlock]; omega) _ _).setFar (by simp [Value.ownBlock]; omega) _ _).setFar (by simp [Value.ownBlock]; omega) _ _).setFar (by simp [Value.ownBlock]; omega) _ _).setFar (by simp [Value.ownBlock]; omega) _ _
  · exact ((((((unhide HS3).lowSet (by omega) _ _).lowSet (by omega) _ _).lowSet (by omega) _ _).lowSet (by omega) _ _).lowSet (by omega) _ _).lowSet (by omega) _ _

end Go.Proofs.Ytpcbpliigplgoaa
