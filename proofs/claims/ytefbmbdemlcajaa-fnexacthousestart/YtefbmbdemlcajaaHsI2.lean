/- The keeper's house, where its log is empty and it has no works. -/
import Derived.Test.YtefbmbdemlcajaaHsS
import Derived.Deep.DeepCutAuto
namespace Go.Proofs.Ytefbmbdemlcajaa
open Go.RowKit

theorem lk0_one (n : Nat) : ∀ u ∈ (upto n).flatMap lk0E, u.oneCell' = true := by
  intro u hu
  obtain ⟨i, -, hi⟩ := List.mem_flatMap.1 hu
  simp only [lk0E, List.mem_cons, List.not_mem_nil, or_false] at hi
  rcases hi with rfl | rfl | rfl <;> rfl

theorem houseBuilt {w1 wA : World} {k b c : Nat} {i : Int} (hx : Box wA k 26 #[.int .i64 0, .bool false, .slice none 0 0, .int .i64 0, .slice none 0 0, .slice none 0 0]) (hl : L8 wA b 0) (hb : Below w1.heap.size w1 wA) (hk : w1.heap.size ≤ k) (hne : b ≠ k) :
    Box ((((((wA.setCell ⟨k, 0, none⟩ (.int .i64 i)).setCell ⟨k, 1, none⟩ (.bool true)).setCell ⟨k, 2, none⟩ (.slice none 0 0)).setCell ⟨k, 3, none⟩ (.int .i64 0)).setCell ⟨k, 4, none⟩ (.slice (some ⟨b, 0, none⟩) 8 c)).setCell ⟨k, 5, none⟩ (.slice none 0 0)) k 26 #[.int .i64 i, .bool true, .slice none 0 0, .int .i64 0, .slice (some ⟨b, 0, none⟩) 8 c, .slice none 0 0] ∧ L8 ((((((wA.setCell ⟨k, 0, none⟩ (.int .i64 i)).setCell ⟨k, 1, none⟩ (.bool true)).setCell ⟨k, 2, none⟩ (.slice none 0 0)).setCell ⟨k, 3, none⟩ (.int .i64 0)).setCell ⟨k, 4, none⟩ (.slice (some ⟨b, 0, none⟩) 8 c)).setCell ⟨k, 5, none⟩ (.slice none 0 0)) b 0 ∧ Below w1.heap.size w1 ((((((wA.setCell ⟨k, 0, none⟩ (.int .i64 i)).setCell ⟨k, 1, none⟩ (.bool true)).setCell ⟨k, 2, none⟩ (.slice none 0 0)).setCell ⟨k, 3, none⟩ (.int .i64 0)).setCell ⟨k, 4, none⟩ (.slice (some ⟨b, 0, none⟩) 8 c)).setCell ⟨k, 5, none⟩ (.slice none 0 0)) := by
  refine ⟨⟨?_⟩, ?_, ?_⟩
  · rw [heap_setCell_same _ _ _ _ _ _ (heap_setCell_same _ _ _ _ _ _ (heap_setCell_same _ _ _ _ _ _ (heap_setCell_same _ _ _ _ _ _ (heap_setCell_same _ _ _ _ _ _ (heap_setCell_same _ _ _ _ _ _ hx.row)))))]; rfl
  · exact hl.far (grownBy_set (grownBy_set (grownBy_set (grownBy_set (grownBy_set (grownBy_set (grownBy_refl wA (some k)) 0 _) 1 _) 2 _) 3 _) 4 _) 5 _) (by simp; omega)
  · exact (((((hb.setCell (by simpa using hk) _).setCell (by simpa using hk) _).setCell (by simpa using hk) _).setCell (by simpa using hk) _).setCell (by simpa using hk) _).setCell (by simpa using hk) _

set_option maxRecDepth 100000 in
set_option linter.unusedSimpArgs false in
set_option maxHeartbeats 2000000 in
theorem keeperHouse_any (g : Nat) (i : Int) (w : World) (h : Kp w g i 8) :
    Calls Try.prog 13 #[.pointer (some ⟨g, 0, none⟩)] w fun e w' => (∃ b c, e = .returned (.agg #[.int .i64 i, .bool true, .slice none 0 0, .int .i64 0, .slice (some ⟨b, 0, none⟩) 8 c, .slice none 0 0]) ∧ w.heap.size ≤ b ∧ L8 w' b 0) ∧ Below w.heap.size w w' := by
  obtain ⟨i0, hi, hz0, hz1, hz2⟩ := info_parts Try.infoLk
  have hgl := h.lt
  have HK := hide (h.kept ((Below.refl w.heap.size w).alloc (Nat.le_refl _) (.cells #[.int .i64 0, .bool false, .slice none 0 0, .int .i64 0, .slice none 0 0, .slice none 0 0] 26)))
  have HB := hide ((Below.refl w.heap.size w).alloc (Nat.le_refl _) (.cells #[.int .i64 0, .bool false, .slice none 0 0, .int .i64 0, .slice none 0 0, .slice none 0 0] 26))
  have HX := hide (heap_alloc_new w (.cells #[.int .i64 0, .bool false, .slice none 0 0, .int .i64 0, .slice none 0 0, .slice none 0 0] 26))
  have hsz : (w.alloc (.cells #[.int .i64 0, .bool false, .slice none 0 0, .int .i64 0, .slice none 0 0, .slice none 0 0] 26)).heap.size = w.heap.size + 1 := by simp
  have HSZ := hide hsz
  clear h
  go_enter Try.func13, Try.ntmps13
  go_wp2_with fail
  generalize (w.alloc (.cells #[.int .i64 0, .bool false, .slice none 0 0, .int .i64 0, .slice none 0 0, .slice none 0 0] 26)) = w1 at *
  clear hsz
  go_cut [3] from 8 to 25 (fun t wz => ∃ k b c, t = .pointer (some ⟨k, 0, none⟩) ∧ w.heap.size < k ∧ w.heap.size < b ∧ Box wz k 26 #[.int .i64 i, .bool true, .slice none 0 0, .int .i64 0, .slice (some ⟨b, 0, none⟩) 8 c, .slice none 0 0] ∧ L8 wz b 0 ∧ Below w1.heap.size w1 wz)
  case first =>
    have HKD := hide ((unhide HK).kept ((Below.refl w1.heap.size w1).drew))
    refine wp_region_held_drew (S := fun ww => Kp ww g i 8) (by kernel_rfl) (unhide HKD) (fun hHeld => ?_)
    refine wpAnyH_take (i := 0) (v := ?v1) rfl (by kernel_rfl) (by kernel_rfl) (by kernel_rfl) (fun _ _ _ h => h) (Or.inl ⟨by rfl, ?h1⟩) (by assumption) ?_
    case h1 => (intro w0 hSw; clear hSw; go_simp; try (with_reducible rfl))
    try simp only [Act.put, List.getElem_toArray, List.getElem_cons_zero, List.getElem_cons_succ, List.setIfInBounds_toArray, List.set_cons_zero, List.set_cons_succ]
    refine wpAnyH_take (i := 4) (v := ?v2) rfl (by kernel_rfl) (by kernel_rfl) (by kernel_rfl) (fun _ _ _ h => h) (Or.inl ⟨by rfl, ?h2⟩) (by assumption) ?_
    case h2 => (intro w0 hSw; clear hSw; go_simp; try (with_reducible rfl))
    try simp only [Act.put, List.getElem_toArray, List.getElem_cons_zero, List.getElem_cons_succ, List.setIfInBounds_toArray, List.set_cons_zero, List.set_cons_succ]
    refine wpAnyH_take (i := 8) (v := ?v3) rfl (by kernel_rfl) (by kernel_rfl) (by kernel_rfl) (fun _ _ _ h => h) (Or.inl ⟨by rfl, ?h3⟩) (by assumption) ?_
    case h3 => (intro w0 hSw; clear hSw; go_simp; try (with_reducible rfl))
    try simp only [Act.put, List.getElem_toArray, List.getElem_cons_zero, List.getElem_cons_succ, List.setIfInBounds_toArray, List.set_cons_zero, List.set_cons_succ]
    refine wpAnyH_take (i := 12) (v := ?v4) rfl (by kernel_rfl) (by kernel_rfl) (by kernel_rfl) (fun _ _ _ h => h) (Or.inl ⟨by rfl, ?h4⟩) (by assumption) ?_
    case h4 => (intro w0 hSw; clear hSw; go_simp; try (with_reducible rfl))
    try simp only [Act.put, List.getElem_toArray, List.getElem_cons_zero, List.getElem_cons_succ, List.setIfInBounds_toArray, List.set_cons_zero, List.set_cons_succ]
    refine wpAnyH_take (i := 1) (v := ?v5) rfl (by kernel_rfl) (by kernel_rfl) (by kernel_rfl) (fun _ _ _ h => h) (Or.inl ⟨by rfl, ?h5⟩) (by assumption) ?_
    case h5 => (intro w0 hSw; clear hSw; go_simp; try (with_reducible rfl))
    try simp only [Act.put, List.getElem_toArray, List.getElem_cons_zero, List.getElem_cons_succ, List.setIfInBounds_toArray, List.set_cons_zero, List.set_cons_succ]
    refine wpAnyH_take (i := 5) (v := ?v6) rfl (by kernel_rfl) (by kernel_rfl) (by kernel_rfl) (fun _ _ _ h => h) (Or.inl ⟨by rfl, ?h6⟩) (by assumption) ?_
    case h6 => (intro w0 hSw; clear hSw; go_simp; try (with_reducible rfl))
    try simp only [Act.put, List.getElem_toArray, List.getElem_cons_zero, List.getElem_cons_succ, List.setIfInBounds_toArray, List.set_cons_zero, List.set_cons_succ]
    refine wpAnyH_take (i := 9) (v := ?v7) rfl (by kernel_rfl) (by kernel_rfl) (by kernel_rfl) (fun _ _ _ h => h) (Or.inl ⟨by rfl, ?h7⟩) (by assumption) ?_
    case h7 => (intro w0 hSw; clear hSw; go_simp; try (with_reducible rfl))
    try simp only [Act.put, List.getElem_toArray, List.getElem_cons_zero, List.getElem_cons_succ, List.setIfInBounds_toArray, List.set_cons_zero, List.set_cons_succ]
    refine wpAnyH_take (i := 13) (v := ?v8) rfl (by kernel_rfl) (by kernel_rfl) (by kernel_rfl) (fun _ _ _ h => h) (Or.inl ⟨by rfl, ?h8⟩) (by assumption) ?_
    case h8 => (intro w0 hSw; clear hSw; go_simp; try (with_reducible rfl))
    try simp only [Act.put, List.getElem_toArray, List.getElem_cons_zero, List.getElem_cons_succ, List.setIfInBounds_toArray, List.set_cons_zero, List.set_cons_succ]
    refine wpAnyH_take (i := 2) (v := ?v9) rfl (by kernel_rfl) (by kernel_rfl) (by kernel_rfl) (fun _ _ _ h => h) (Or.inl ⟨by rfl, ?h9⟩) (by assumption) ?_
    case h9 => (intro w0 hSw; clear hSw; go_simp; try (with_reducible rfl))
    try simp only [Act.put, List.getElem_toArray, List.getElem_cons_zero, List.getElem_cons_succ, List.setIfInBounds_toArray, List.set_cons_zero, List.set_cons_succ]
    refine wpAnyH_take (i := 6) (v := ?v10) rfl (by kernel_rfl) (by kernel_rfl) (by kernel_rfl) (fun _ _ _ h => h) (Or.inl ⟨by rfl, ?h10⟩) (by assumption) ?_
    case h10 => (intro w0 hSw; clear hSw; go_simp; try (with_reducible rfl))
    try simp only [Act.put, List.getElem_toArray, List.getElem_cons_zero, List.getElem_cons_succ, List.setIfInBounds_toArray, List.set_cons_zero, List.set_cons_succ]
    refine wpAnyH_take (i := 10) (v := ?v11) rfl (by kernel_rfl) (by kernel_rfl) (by kernel_rfl) (fun _ _ _ h => h) (Or.inl ⟨by rfl, ?h11⟩) (by assumption) ?_
    case h11 => (intro w0 hSw; clear hSw; go_simp; try (with_reducible rfl))
    try simp only [Act.put, List.getElem_toArray, List.getElem_cons_zero, List.getElem_cons_succ, List.setIfInBounds_toArray, List.set_cons_zero, List.set_cons_succ]
    refine wpAnyH_take (i := 14) (v := ?v12) rfl (by kernel_rfl) (by kernel_rfl) (by kernel_rfl) (fun _ _ _ h => h) (Or.inl ⟨by rfl, ?h12⟩) (by assumption) ?_
    case h12 => (intro w0 hSw; clear hSw; go_simp; try (with_reducible rfl))
    try simp only [Act.put, List.getElem_toArray, List.getElem_cons_zero, List.getElem_cons_succ, List.setIfInBounds_toArray, List.set_cons_zero, List.set_cons_succ]
    refine wpAnyH_take (i := 3) (v := ?v13) rfl (by kernel_rfl) (by kernel_rfl) (by kernel_rfl) (fun _ _ _ h => h) (Or.inl ⟨by rfl, ?h13⟩) (by assumption) ?_
    case h13 => (intro w0 hSw; have s0 := hSw.at.2.1; clear hSw; go_simp; try (with_reducible rfl))
    try simp only [Act.put, List.getElem_toArray, List.getElem_cons_zero, List.getElem_cons_succ, List.setIfInBounds_toArray, List.set_cons_zero, List.set_cons_succ]
    refine wpAnyH_take (i := 7) (v := ?v14) rfl (by kernel_rfl) (by kernel_rfl) (by kernel_rfl) (fun _ _ _ h => h) (Or.inl ⟨by rfl, ?h14⟩) (by assumption) ?_
    case h14 => (intro w0 hSw; have s0 := hSw.at.2.2.1; clear hSw; go_simp; try (with_reducible rfl))
    try simp only [Act.put, List.getElem_toArray, List.getElem_cons_zero, List.getElem_cons_succ, List.setIfInBounds_toArray, List.set_cons_zero, List.set_cons_succ]
    refine wpAnyH_take (i := 11) (v := ?v15) rfl (by kernel_rfl) (by kernel_rfl) (by kernel_rfl) (fun _ _ _ h => h) (Or.inl ⟨by rfl, ?h15⟩) (by assumption) ?_
    case h15 => (intro w0 hSw; have s0 := hSw.at.2.2.2.1; clear hSw; go_simp; try (with_reducible rfl))
    try simp only [Act.put, List.getElem_toArray, List.getElem_cons_zero, List.getElem_cons_succ, List.setIfInBounds_toArray, List.set_cons_zero, List.set_cons_succ]
    refine wpAnyH_take (i := 15) (v := ?v16) rfl (by kernel_rfl) (by kernel_rfl) (by kernel_rfl) (fun _ _ _ h => h) (Or.inl ⟨by rfl, ?h16⟩) (by assumption) ?_
    case h16 => (intro w0 hSw; clear hSw; go_simp; try (with_reducible rfl))
    try simp only [Act.put, List.getElem_toArray, List.getElem_cons_zero, List.getElem_cons_succ, List.setIfInBounds_toArray, List.set_cons_zero, List.set_cons_succ]
    refine wpAnyH_ready (rs := [16, 18]) (by kernel_rfl) (by simp) ?_
    refine AllReadyH.cons rfl (fun Kx hK => ?_) (AllReadyH.cons rfl (fun Kx hK => ?_) AllReadyH.nil)
    · skip
      refine step_append_at (by rfl) (.const (.slice none 0 0)) (.tmp 23) 23 (by rfl) (w1.heap.size) 42 i0 (.agg #[.int .i64 0, .slice none 0 0, .slice none 0 0]) 3 56 Try.underlying23 hi hz0 hz1 hz2 rfl (by decide) (.slice none 0 0) 0 [] (by rfl) ⟨rfl, .inl ⟨rfl, rfl⟩⟩ (some ⟨g, 46, none⟩) 8 8 ((upto 8).flatMap lk0E) (by kernel_rfl) rfl (unhide HKD).locks (lk0_one 8) (by unfold maxLen; omega) (by omega) (by first | omega | (simp; omega) | (simp; done)) _ rfl ?_
      intro b9 cap9 w9 hown9 hgrow9 hat9
      rw [Nat.zero_add] at hown9 hat9 ⊢
      rw [List.nil_append] at hown9
      obtain ⟨b, c, hbc, hb1, hb2⟩ := hown9.form (by omega)
      simp only [Value.slice.injEq, true_and] at hbc
      obtain ⟨rfl, rfl⟩ := hbc
      have HB9 : Hid (Below w1.heap.size w1 w9) := Below.grown ((Below.refl _ _).drew) hgrow9 (by simp) (fun q hq => by simp [Value.ownBlock] at hq)
      have HL9 := hide (L8.of_own hown9)
      have z9 := hgrow9.size
      clear hHeld
      refine hK.out _ _ ((unhide HK).kept (unhide HB9)) (fun hHeld => ?_)
      clear hK Kx
      refine wpAnyH_take (i := 17) (v := ?v17) rfl (by kernel_rfl) (by kernel_rfl) (by kernel_rfl) (fun _ _ _ h => h) (Or.inl ⟨by rfl, ?h17⟩) (by assumption) ?_
      case h17 => (intro w0 hSw; clear hSw; go_simp; try (with_reducible rfl))
      try simp only [Act.put, List.getElem_toArray, List.getElem_cons_zero, List.getElem_cons_succ, List.setIfInBounds_toArray, List.set_cons_zero, List.set_cons_succ]
      refine wpAnyH_ready (rs := [18]) (by kernel_rfl) (by simp) ?_
      refine AllReadyH.cons rfl (fun Kx hK => ?_) AllReadyH.nil
      go_simp
      try go_wp2_with fail
      have HXK := hide (Box.made w9 26 #[.int .i64 0, .bool false, .slice none 0 0, .int .i64 0, .slice none 0 0, .slice none 0 0])
      have HBK := hide ((unhide HB9).alloc (unhide HB9).size (.cells #[.int .i64 0, .bool false, .slice none 0 0, .int .i64 0, .slice none 0 0, .slice none 0 0] 26))
      have HLK := hide ((unhide HL9).kept ((Below.refl _ _).alloc (Nat.le_refl _) (.cells #[.int .i64 0, .bool false, .slice none 0 0, .int .i64 0, .slice none 0 0, .slice none 0 0] 26)))
      clear hHeld
      refine hK.out _ _ ((unhide HK).kept (unhide HBK)) (fun hHeld => ?_)
      clear hK Kx
      generalize (w9.alloc (.cells #[.int .i64 0, .bool false, .slice none 0 0, .int .i64 0, .slice none 0 0, .slice none 0 0] 26)) = wA at *
      have hfin := houseBuilt (w1 := w1) (c := cap9) (i := i) (unhide HXK) (unhide HLK) (unhide HBK) (by have := (unhide HB9).size; (try simp); omega) (by omega)
      have HFIN := hide hfin
      clear hfin
      have y0 := (unhide HXK).cell 0
      have y1 := (unhide HXK).cell 1
      have y2 := (unhide HXK).cell 2
      have y3 := (unhide HXK).cell 3
      have y4 := (unhide HXK).cell 4
      have y5 := (unhide HXK).cell 5
      simp only [List.getElem?_toArray, List.getElem?_cons_zero, List.getElem?_cons_succ] at y0 y1 y2 y3 y4 y5
      have f0 := frozen_of_row _ _ 0 _ _ (unhide HXK).row
      have f1 := frozen_of_row _ _ 1 _ _ (unhide HXK).row
      have f2 := frozen_of_row _ _ 2 _ _ (unhide HXK).row
      have f3 := frozen_of_row _ _ 3 _ _ (unhide HXK).row
      have f4 := frozen_of_row _ _ 4 _ _ (unhide HXK).row
      have f5 := frozen_of_row _ _ 5 _ _ (unhide HXK).row
      have lR := (unhide HXK).lt
      refine wpAnyH_ready (rs := [19]) (by kernel_rfl) (by simp) ?_
      refine AllReadyH.cons rfl (fun Kx hK => ?_) AllReadyH.nil
      go_simp
      try go_wp2_with fail
      refine hK.out _ _ ((unhide HK).kept (unhide HFIN).2.2) (fun hHeld2 => ?_)
      clear hK Kx
      refine wpAnyH_done (by kernel_rfl) ?_ _
      try go_wp2_with fail
      go_meet
      case rel => exact ⟨_, _, _, rfl, by have := unhide HSZ; have := (unhide HB9).size; (try simp); omega, by have := unhide HSZ; (try simp at hb1); omega, (unhide HFIN).1, (unhide HFIN).2.1, (unhide HFIN).2.2⟩
    · skip
      go_simp
      try go_wp2_with fail
      have HXZ : Hid (Box (w1.drew.alloc (.cells #[.int .i64 0, .bool false, .slice none 0 0, .int .i64 0, .slice none 0 0, .slice none 0 0] 26)) w1.heap.size 26 #[.int .i64 0, .bool false, .slice none 0 0, .int .i64 0, .slice none 0 0, .slice none 0 0]) := Box.made w1.drew 26 #[.int .i64 0, .bool false, .slice none 0 0, .int .i64 0, .slice none 0 0, .slice none 0 0]
      have HBZ := hide (((Below.refl w1.heap.size w1).drew).alloc (by simp) (.cells #[.int .i64 0, .bool false, .slice none 0 0, .int .i64 0, .slice none 0 0, .slice none 0 0] 26))
      have HKZ := hide ((unhide HK).kept (unhide HBZ))
      clear hHeld
      refine hK.out _ _ (unhide HKZ) (fun hHeld => ?_)
      clear hK Kx
      refine wpAnyH_ready (rs := [16]) (by kernel_rfl) (by simp) ?_
      refine AllReadyH.cons rfl (fun Kx hK => ?_) AllReadyH.nil
      refine step_append_at (by rfl) (.const (.slice none 0 0)) (.tmp 23) 23 (by rfl) (w1.heap.size) 42 i0 (.agg #[.int .i64 0, .slice none 0 0, .slice none 0 0]) 3 56 Try.underlying23 hi hz0 hz1 hz2 rfl (by decide) (.slice none 0 0) 0 [] (by rfl) ⟨rfl, .inl ⟨rfl, rfl⟩⟩ (some ⟨g, 46, none⟩) 8 8 ((upto 8).flatMap lk0E) (by kernel_rfl) rfl (unhide HKZ).locks (lk0_one 8) (by unfold maxLen; omega) (by omega) (by first | omega | (simp; omega) | (simp; done)) _ rfl ?_
      intro b9 cap9 w9 hown9 hgrow9 hat9
      rw [Nat.zero_add] at hown9 hat9 ⊢
      rw [List.nil_append] at hown9
      obtain ⟨b, c, hbc, hb1, hb2⟩ := hown9.form (by omega)
      simp only [Value.slice.injEq, true_and] at hbc
      obtain ⟨rfl, rfl⟩ := hbc
      have HB9 : Hid (Below w1.heap.size w1 w9) := Below.grown (unhide HBZ) hgrow9 (by simp) (fun q hq => by simp [Value.ownBlock] at hq)
      have HL9 := hide (L8.of_own hown9)
      have z9 := hgrow9.size
      have HXK := hide ((unhide HXZ).far hgrow9 (by simp [Value.ownBlock]))
      have HBK := hide (unhide HB9)
      have HLK := hide (unhide HL9)
      clear hHeld
      refine hK.out _ _ ((unhide HK).kept (unhide HB9)) (fun hHeld => ?_)
      clear hK Kx
      refine wpAnyH_take (i := 17) (v := ?v18) rfl (by kernel_rfl) (by kernel_rfl) (by kernel_rfl) (fun _ _ _ h => h) (Or.inl ⟨by rfl, ?h18⟩) (by assumption) ?_
      case h18 => (intro w0 hSw; clear hSw; go_simp; try (with_reducible rfl))
      try simp only [Act.put, List.getElem_toArray, List.getElem_cons_zero, List.getElem_cons_succ, List.setIfInBounds_toArray, List.set_cons_zero, List.set_cons_succ]
      have hfin := houseBuilt (w1 := w1) (c := cap9) (i := i) (unhide HXK) (unhide HLK) (unhide HBK) (Nat.le_refl _) (by
        rcases hat9 with hh | hh
        · simp [Value.ownBlock] at hh
        · have hh2 : b = w1.heap.size + 1 := by
            exact (Option.some.inj hh).trans (by show (w1.alloc _).heap.size = _; simp)
          omega)
      have HFIN := hide hfin
      clear hfin
      have y0 := (unhide HXK).cell 0
      have y1 := (unhide HXK).cell 1
      have y2 := (unhide HXK).cell 2
      have y3 := (unhide HXK).cell 3
      have y4 := (unhide HXK).cell 4
      have y5 := (unhide HXK).cell 5
      simp only [List.getElem?_toArray, List.getElem?_cons_zero, List.getElem?_cons_succ] at y0 y1 y2 y3 y4 y5
      have f0 := frozen_of_row _ _ 0 _ _ (unhide HXK).row
      have f1 := frozen_of_row _ _ 1 _ _ (unhide HXK).row
      have f2 := frozen_of_row _ _ 2 _ _ (unhide HXK).row
      have f3 := frozen_of_row _ _ 3 _ _ (unhide HXK).row
      have f4 := frozen_of_row _ _ 4 _ _ (unhide HXK).row
      have f5 := frozen_of_row _ _ 5 _ _ (unhide HXK).row
      have lR := (unhide HXK).lt
      refine wpAnyH_ready (rs := [19]) (by kernel_rfl) (by simp) ?_
      refine AllReadyH.cons rfl (fun Kx hK => ?_) AllReadyH.nil
      go_simp
      try go_wp2_with fail
      refine hK.out _ _ ((unhide HK).kept (unhide HFIN).2.2) (fun hHeld2 => ?_)
      clear hK Kx
      refine wpAnyH_done (by kernel_rfl) ?_ _
      try go_wp2_with fail
      go_meet
      case rel => exact ⟨_, _, _, rfl, by have := unhide HSZ; have := (unhide HB9).size; (try simp); omega, by have := unhide HSZ; (try simp at hb1); omega, (unhide HFIN).1, (unhide HFIN).2.1, (unhide HFIN).2.2⟩
  case rest =>
    obtain ⟨k, b, c, rfl, hk, hb, hx, hl, hbz⟩ := hcut
    have HXK := hide hx
    have HL := hide hl
    have HBZ := hide ((unhide HB).trans (hbz.mono (unhide HB).size))
    have HXW := hide ((hbz.block w.heap.size (by have := unhide HSZ; omega)).trans (unhide HX))
    obtain ⟨g0, -, -, -, g4⟩ := ((unhide HK).kept hbz).at
    have y0 := hx.cell 0
    have y1 := hx.cell 1
    have y2 := hx.cell 2
    have y3 := hx.cell 3
    have y4 := hx.cell 4
    have y5 := hx.cell 5
    simp only [List.getElem?_toArray, List.getElem?_cons_zero, List.getElem?_cons_succ] at y0 y1 y2 y3 y4 y5
    clear hx hl hbz
    go_wp2_with fail
    refine wp_loop_rounds 1 ?_
    rw [rounds_succ]
    go_wp2_with fail
    refine wp_loop_rounds 1 ?_
    rw [rounds_succ]
    go_wp2_with (refine wpList_store_row rfl 26 _ _ rfl w.heap.size _ rfl rfl 26 _ (unhide HXW) (by kernel_rfl) rfl (by simp [Value.oneCell']) ?_)
    refine bodyPost_ret (results_cell_row rfl _ _ w.heap.size _ _ _ _ rfl (setRow_heap _ _ _ _ _ _ (unhide HXW)) Try.underlying26 rfl (by kernel_rfl)) rfl ?_
    exact ⟨⟨b, c, rfl, by omega, (unhide HL).far (grownBy_setRow _ w.heap.size _) (by simp; omega)⟩, below_setRow (unhide HBZ) (Nat.le_refl _) _⟩

end Go.Proofs.Ytefbmbdemlcajaa
