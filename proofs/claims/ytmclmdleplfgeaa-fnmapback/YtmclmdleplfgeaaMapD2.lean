/- Maps, and moves of them, are drawn out of bytes. -/
import Derived.Test.YtmclmdleplfgeaaMapD
namespace Go.Proofs.Ytmclmdleplfgeaa
open Go.RowKit

theorem BytesAt.kept {w w' : World} {v : Value} {n : Nat} (h : BytesAt w v n) (hb : Below w.heap.size w w') : BytesAt w' v n := by
  obtain ⟨a, cap, hv, h1, h2, h3⟩ := h
  refine ⟨a, cap, hv, h1, h2, ?_⟩
  rcases h3 with h3 | ⟨b, off, ha, bs, hbs⟩
  · exact .inl h3
  · exact .inr ⟨b, off, ha, bs, fun i hi => ⟨cell_kept hb (hbs i hi).1, (hbs i hi).2⟩⟩

set_option maxRecDepth 100000 in
set_option maxHeartbeats 1000000 in
theorem drawMapOk_any (v : Value) (n : Nat) (w : World) (hv : BytesAt w v n) :
    Calls Try.prog 13 #[v] w fun e w' => ∃ V a m c L, e = .returned (.agg #[.int .i64 V, .slice a m c]) ∧ InsAt w' (.slice a m c) L ∧ L.length ≤ 8 ∧ 0 ≤ V ∧ V ≤ 100 ∧ Below w.heap.size w w' := by
  have bA : Below w.heap.size w (w.alloc (.cells #[.int .i64 0, .slice none 0 0] 25)) := (Below.refl _ _).alloc (Nat.le_refl _) _
  have hvA : BytesAt (w.alloc (.cells #[.int .i64 0, .slice none 0 0] 25)) v n := hv.kept bA
  have HVA := hide hvA
  obtain ⟨a0, cap0, rfl, -⟩ := hv
  clear hvA
  go_enter Try.func13, Try.ntmps13
  go_wp2_with fail
  refine (open_any _ n _ (unhide HVA)).mono ?_; rintro e w1 ⟨rfl, hr1, hb1, hs1⟩
  have HX1 := hide ((Box.made w 25 #[.int .i64 0, .slice none 0 0]).kept hb1)
  have HB1 := hide (bA.trans (hb1.mono bA.size))
  have eS : (w.alloc (.cells #[.int .i64 0, .slice none 0 0] 25)).heap.size = w.heap.size + 1 := by simp
  rw [eS] at hr1 hs1
  clear eS
  go_wp2_with fail
  refine (drawMap_any (w.heap.size + 1) 0 _ hr1 (by omega)).mono ?_; rintro e w2 ⟨V, r, L, p2, rfl, hi2, hk2, hl2, hV1, hV2, hr2, hp2, hg2⟩
  obtain ⟨a, c, rfl, hc1, hc2, -⟩ := id hi2
  have HX2 := hide ((unhide HX1).far hg2 (by simp))
  have HB2 : Hid (Below w.heap.size w w2) := Below.grown (unhide HB1) hg2 (unhide HB1).size (fun q hq => by simp at hq; omega)
  have HI2 := hide hi2
  have HK2 := hide hk2
  obtain ⟨d0, d1⟩ := (unhide HX2).two
  have e0 := (unhide HX2).free 0
  have e1 := (unhide HX2).free 1
  clear hr1 hr2 hg2 hi2 hk2 hb1 hc1 hc2
  go_wp2_with fail
  refine bodyPost_ret (results_cell_row rfl _ _ w.heap.size _ _ _ _ rfl (heap_setCell_same _ _ _ _ _ _ (heap_setCell_same _ _ _ _ _ _ (unhide HX2).row)) Try.underlying25 rfl (by kernel_rfl)) rfl ?_
  have hne : (Value.slice a L.length c).ownBlock ≠ some w.heap.size := by
    rcases unhide HK2 with h | ⟨q, h, h1, h2⟩
    · rw [h]; simp
    · rw [h]; simp; omega
  exact ⟨V, a, L.length, c, L, by simp, ((unhide HI2).set hne _ _).set hne _ _, hl2, hV1, hV2, ((unhide HB2).setCell (by simp) _).setCell (by simp) _⟩

set_option maxRecDepth 100000 in
set_option maxHeartbeats 1000000 in
theorem drawMapMove_any (v : Value) (n : Nat) (w : World) (hv : BytesAt w v n) :
    Calls Try.prog 23 #[v] w fun e w' => ∃ V a m c L s t, e = .returned (.tuple #[.agg #[.int .i64 V, .slice a m c], .int .i64 s, .int .i64 t]) ∧ InsAt w' (.slice a m c) L ∧ L.length ≤ 8 ∧ 0 ≤ V ∧ V ≤ 100 ∧ -1 ≤ s ∧ s ≤ 8 ∧ -1 ≤ t ∧ t ≤ 3 ∧ Below w.heap.size w w' := by
  have bA : Below w.heap.size w (w.alloc (.cells #[.int .i64 0, .slice none 0 0] 25)) := (Below.refl _ _).alloc (Nat.le_refl _) _
  have hvA : BytesAt (w.alloc (.cells #[.int .i64 0, .slice none 0 0] 25)) v n := hv.kept bA
  have HVA := hide hvA
  obtain ⟨a0, cap0, rfl, -⟩ := hv
  clear hvA
  go_enter Try.func23, Try.ntmps23
  go_wp2_with fail
  refine (open_any _ n _ (unhide HVA)).mono ?_; rintro e w1 ⟨rfl, hr1, hb1, hs1⟩
  have HX1 := hide ((Box.made w 25 #[.int .i64 0, .slice none 0 0]).kept hb1)
  have HB1 := hide (bA.trans (hb1.mono bA.size))
  have eS : (w.alloc (.cells #[.int .i64 0, .slice none 0 0] 25)).heap.size = w.heap.size + 1 := by simp
  rw [eS] at hr1 hs1
  clear eS
  go_wp2_with fail
  refine (drawMap_any (w.heap.size + 1) 0 _ hr1 (by omega)).mono ?_; rintro e w2 ⟨V, r, L, p2, rfl, hi2, hk2, hl2, hV1, hV2, hr2, hp2, hg2⟩
  obtain ⟨a, c, rfl, hc1, hc2, -⟩ := id hi2
  have z2 := hg2.size
  have hnB : (Value.slice a L.length c).ownBlock = none ∨ (Value.slice a L.length c).ownBlock ≠ some (w.heap.size + 1) := by
    rcases hk2 with h | ⟨q, h, h1, h2⟩
    · exact .inl h
    · right; rw [h]; simp; omega
  go_wp2_with fail
  refine (pick_any (w.heap.size + 1) p2 10 _ hr2 (by omega) (by omega)).mono ?_; rintro e w3 ⟨s, rfl, s1, s2, hr3, hg3, -⟩
  have s2' := s2 (by omega)
  go_wp2_with fail
  refine (pick_any (w.heap.size + 1) (p2 + 1) 5 _ hr3 (by omega) (by omega)).mono ?_; rintro e w4 ⟨t, rfl, t1, t2, hr4, hg4, -⟩
  have t2' := t2 (by omega)
  have hg := grownBy_trans (grownBy_trans hg2 hg3) hg4
  have HX2 := hide ((unhide HX1).far hg (by simp))
  have HB2 : Hid (Below w.heap.size w w4) := Below.grown (unhide HB1) hg (unhide HB1).size (fun q hq => by simp at hq; omega)
  have HI2 := hide ((hi2.far hg3 hnB).far hg4 hnB)
  have HK2 := hide hk2
  obtain ⟨d0, d1⟩ := (unhide HX2).two
  have e0 := (unhide HX2).free 0
  have e1 := (unhide HX2).free 1
  clear hr1 hr2 hr3 hr4 hg2 hg3 hg4 hg hi2 hk2 hb1 hc1 hc2 s2 t2 hnB
  go_wp2_with fail
  refine bodyPost_ret (results_row_tmp2 rfl _ _ w.heap.size _ _ _ _ rfl (heap_setCell_same _ _ _ _ _ _ (heap_setCell_same _ _ _ _ _ _ (unhide HX2).row)) Try.underlying25 rfl (by kernel_rfl)) rfl ?_
  have hne : (Value.slice a L.length c).ownBlock ≠ some w.heap.size := by
    rcases unhide HK2 with h | ⟨q, h, h1, h2⟩
    · rw [h]; simp
    · rw [h]; simp; omega
  exact ⟨V, a, L.length, c, L, s - 1, t - 1, by simp, ((unhide HI2).set hne _ _).set hne _ _, hl2, hV1, hV2, by omega, by omega, by omega, by omega, ((unhide HB2).setCell (by simp) _).setCell (by simp) _⟩

end Go.Proofs.Ytmclmdleplfgeaa
