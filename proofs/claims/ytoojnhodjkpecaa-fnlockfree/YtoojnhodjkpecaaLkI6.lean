/- The program copies a lock. -/
import Derived.Test.YtoojnhodjkpecaaLkI5
namespace Go.Proofs.Ytoojnhodjkpecaa
open Go.RowKit

set_option maxRecDepth 100000 in
set_option linter.unusedSimpArgs false in
set_option maxHeartbeats 4000000 in
theorem copyLock_any (l : Lk) (a b : Value) (w : World) (hv : LkAt w l a b) (h1 : l.held.length ≤ 1000) (h2 : l.waits.length ≤ 1000) :
    Calls Try.prog 50 #[lkV l a b] w fun e w' => ∃ a' b', e = .returned (lkV l a' b') ∧ w'.ownsRow w.heap.size 27 4 a' l.held.length (l.held.flatMap hdE) ∧ w'.ownsRow w.heap.size 27 4 b' l.waits.length (l.waits.flatMap hdE) ∧ (a'.ownBlock = none ∨ a'.ownBlock ≠ b'.ownBlock) ∧ Below w.heap.size w w' := by
  obtain ⟨slot, H, W⟩ := l
  obtain ⟨hvh, hvw⟩ := hv
  simp only [lkV] at *
  obtain ⟨ah, ch, rfl, hlh⟩ := hvh.shape
  obtain ⟨aw, cw, rfl, hlw⟩ := hvw.shape
  obtain ⟨i0, hi, hz0, hz1, hz2⟩ := info_parts Try.infoHd
  have HH := hide hvh
  have HW := hide hvw
  clear hvh hvw hlh hlw
  go_enter Try.func50, Try.ntmps50
  go_wp2_with fail
  have bB : Below w.heap.size w ((w.alloc (.cells #[.int .i64 slot, .slice ah H.length ch, .slice aw W.length cw] 25)).alloc (.cells #[.int .i64 0, .slice none 0 0, .slice none 0 0] 25)) := ((Below.refl _ _).alloc (Nat.le_refl _) _).alloc (by simp) _
  have bx : Bx ((w.alloc (.cells #[.int .i64 slot, .slice ah H.length ch, .slice aw W.length cw] 25)).alloc (.cells #[.int .i64 0, .slice none 0 0, .slice none 0 0] 25)) w.heap.size 25 #[.int .i64 slot, .slice ah H.length ch, .slice aw W.length cw] := (Bx.made w _ _).allocK
  have rx : Bx ((w.alloc (.cells #[.int .i64 slot, .slice ah H.length ch, .slice aw W.length cw] 25)).alloc (.cells #[.int .i64 0, .slice none 0 0, .slice none 0 0] 25)) (w.heap.size + 1) 25 #[.int .i64 0, .slice none 0 0, .slice none 0 0] := by
    have := Bx.made (w.alloc (.cells #[.int .i64 slot, .slice ah H.length ch, .slice aw W.length cw] 25)) 25 #[.int .i64 0, .slice none 0 0, .slice none 0 0]
    rwa [show (w.alloc (.cells #[.int .i64 slot, .slice ah H.length ch, .slice aw W.length cw] 25)).heap.size = w.heap.size + 1 by simp] at this
  have z2 : ((w.alloc (.cells #[.int .i64 slot, .slice ah H.length ch, .slice aw W.length cw] 25)).alloc (.cells #[.int .i64 0, .slice none 0 0, .slice none 0 0] 25)).heap.size = w.heap.size + 2 := by simp
  generalize ((w.alloc (.cells #[.int .i64 slot, .slice ah H.length ch, .slice aw W.length cw] 25)).alloc (.cells #[.int .i64 0, .slice none 0 0, .slice none 0 0] 25)) = w2 at *
  have HH2 := hide ((unhide HH).kept bB)
  have HW2 := hide ((unhide HW).kept bB)
  have HRX := hide rx
  have HZ2 := hide z2
  have hz2' : w.heap.size + 2 ≤ w2.heap.size := by omega
  have HBB := hide bB
  have HBX := hide bx
  clear rx z2 bB bx
  refine wp_region_held_drew (S := fun w' => w'.cell? ⟨w.heap.size, 0, none⟩ = some (.int .i64 slot) ∧ w'.cell? ⟨w.heap.size, 1, none⟩ = some (.slice ah H.length ch) ∧ w'.cell? ⟨w.heap.size, 2, none⟩ = some (.slice aw W.length cw)) (by kernel_rfl) (Bx.three (T := 25) (by with_reducible (repeat (first | exact unhide HBX | apply Bx.drewK | apply Bx.allocK | refine Bx.setK ?_ (by omega))))) (fun hHeld => ?_)
  refine wpAnyH_take (i := 0) (v := ?v0x1) rfl (by kernel_rfl) (by kernel_rfl) (by kernel_rfl) (fun _ _ _ h => h) (Or.inl ⟨by rfl, ?hy0x1⟩) (by assumption) ?_
  case hy0x1 => (intro w0 hSw; obtain ⟨s0, s1, s2⟩ := hSw; go_simp; try (with_reducible rfl))
  try simp only [Act.put, List.setIfInBounds_toArray, List.set_cons_zero, List.set_cons_succ]
  refine wpAnyH_take (i := 1) (v := ?v1x2) rfl (by kernel_rfl) (by kernel_rfl) (by kernel_rfl) (fun _ _ _ h => h) (Or.inl ⟨by rfl, ?hy1x2⟩) (by assumption) ?_
  case hy1x2 => (intro w0 hSw; obtain ⟨s0, s1, s2⟩ := hSw; go_simp; try (with_reducible rfl))
  try simp only [Act.put, List.setIfInBounds_toArray, List.set_cons_zero, List.set_cons_succ]
  refine wpAnyH_take (i := 2) (v := ?v2x3) rfl (by kernel_rfl) (by kernel_rfl) (by kernel_rfl) (fun _ _ _ h => h) (Or.inl ⟨by rfl, ?hy2x3⟩) (by assumption) ?_
  case hy2x3 => (intro w0 hSw; obtain ⟨s0, s1, s2⟩ := hSw; go_simp; try (with_reducible rfl))
  try simp only [Act.put, List.setIfInBounds_toArray, List.set_cons_zero, List.set_cons_succ]
  refine wpAnyH_take (i := 3) (v := ?v3x4) rfl (by kernel_rfl) (by kernel_rfl) (by kernel_rfl) (fun _ _ _ h => h) (Or.inl ⟨by rfl, ?hy3x4⟩) (by assumption) ?_
  case hy3x4 => (intro w0 hSw; obtain ⟨s0, s1, s2⟩ := hSw; go_simp; try (with_reducible rfl))
  try simp only [Act.put, List.setIfInBounds_toArray, List.set_cons_zero, List.set_cons_succ]
  refine wpAnyH_take (i := 5) (v := ?v5x5) rfl (by kernel_rfl) (by kernel_rfl) (by kernel_rfl) (fun _ _ _ h => h) (Or.inl ⟨by rfl, ?hy5x5⟩) (by assumption) ?_
  case hy5x5 => (intro w0 hSw; obtain ⟨s0, s1, s2⟩ := hSw; go_simp; try (with_reducible rfl))
  try simp only [Act.put, List.setIfInBounds_toArray, List.set_cons_zero, List.set_cons_succ]
  refine wpAnyH_take (i := 6) (v := ?v6x6) rfl (by kernel_rfl) (by kernel_rfl) (by kernel_rfl) (fun _ _ _ h => h) (Or.inl ⟨by rfl, ?hy6x6⟩) (by assumption) ?_
  case hy6x6 => (intro w0 hSw; obtain ⟨s0, s1, s2⟩ := hSw; go_simp; try (with_reducible rfl))
  try simp only [Act.put, List.setIfInBounds_toArray, List.set_cons_zero, List.set_cons_succ]
  refine wpAnyH_ready (rs := [4]) (by kernel_rfl) (by simp) ?_
  refine AllReadyH.cons rfl (fun K hK => ?_) AllReadyH.nil
  refine step_append_at (by rfl) (.const (.slice none 0 0)) (.tmp 6) 23 (by rfl) (w.heap.size + 2) 27 i0 (.agg #[.int .i64 0, .int .i64 0, .bool false, .bool false]) 4 24 Try.underlying23 hi hz0 hz1 hz2 rfl (by decide) (.slice none 0 0) 0 [] (by rfl) ⟨rfl, .inl ⟨rfl, rfl⟩⟩ ah H.length ch (H.flatMap hdE) (by rfl) (flat_len hdE_len _) (RowAt.src (by with_reducible (repeat (first | exact unhide HH2 | apply RowAt.drewK | apply RowAt.allocK)))).2 (hd_one _) (by unfold maxLen; omega) (by omega) (by first | omega | (simp; omega) | (simp; done)) _ rfl ?_
  intro b9 cap9 w9 hown9 hgrow9 hat9
  rw [Nat.zero_add] at hown9 hat9 ⊢
  rw [List.nil_append] at hown9
  have HB9 : Hid (Below w2.heap.size w2 w9) := Below.grown (by with_reducible (repeat (first | exact Below.refl _ _ | apply Below.drew | refine Below.alloc ?_ (by simp) _))) hgrow9 (by first | (simp; done) | (simp; omega)) (fun q hq => by simp [Value.ownBlock] at hq)
  have HX9 : Hid (Bx w9 w.heap.size 25 #[.int .i64 slot, .slice ah H.length ch, .slice aw W.length cw]) := (unhide HBX).kept (unhide HB9)
  have HR9 : Hid (Bx w9 (w.heap.size + 1) 25 #[.int .i64 0, .slice none 0 0, .slice none 0 0]) := (unhide HRX).kept (unhide HB9)
  have HQ9 : Hid (RowAt hdE w9 (.slice aw W.length cw) W) := (unhide HW2).kept (unhide HB9)
  have HO9 := hide hown9
  have zB9 := (unhide HB9).size
  clear hHeld
  refine hK.out _ _ ?_ (fun hHeld => ?_)
  · exact (Bx.three (T := 25) (by with_reducible (repeat (first | exact unhide HX9 | apply Bx.drewK | apply Bx.allocK | refine Bx.setK ?_ (by omega)))))
  clear hK K
  refine wpAnyH_ready (rs := [7]) (by kernel_rfl) (by simp) ?_
  refine AllReadyH.cons rfl (fun K hK => ?_) AllReadyH.nil
  refine step_append_at (by rfl) (.const (.slice none 0 0)) (.tmp 9) 23 (by rfl) (w.heap.size + 2) 27 i0 (.agg #[.int .i64 0, .int .i64 0, .bool false, .bool false]) 4 24 Try.underlying23 hi hz0 hz1 hz2 rfl (by decide) (.slice none 0 0) 0 [] (by rfl) ⟨rfl, .inl ⟨rfl, rfl⟩⟩ aw W.length cw (W.flatMap hdE) (by rfl) (flat_len hdE_len _) (RowAt.src (by with_reducible (repeat (first | exact unhide HQ9 | apply RowAt.drewK | apply RowAt.allocK)))).2 (hd_one _) (by unfold maxLen; omega) (by omega) (by first | omega | (simp; omega) | (simp; done)) _ rfl ?_
  intro b10 cap10 w10 hown10 hgrow10 hat10
  rw [Nat.zero_add] at hown10 hat10 ⊢
  rw [List.nil_append] at hown10
  have HX10 : Hid (Bx w10 w.heap.size 25 #[.int .i64 slot, .slice ah H.length ch, .slice aw W.length cw]) := Bx.far (by with_reducible (repeat (first | exact unhide HX9 | apply Bx.drewK | apply Bx.allocK))) hgrow10 (by simp [Value.ownBlock])
  have HR10 : Hid (Bx w10 (w.heap.size + 1) 25 #[.int .i64 0, .slice none 0 0, .slice none 0 0]) := Bx.far (by with_reducible (repeat (first | exact unhide HR9 | apply Bx.drewK | apply Bx.allocK))) hgrow10 (by simp [Value.ownBlock])
  have HB10 : Hid (Below w2.heap.size w2 w10) := Below.grown (unhide HB9) hgrow10 (unhide HB9).size (fun q hq => by simp [Value.ownBlock] at hq)
  have HA10 : Hid (w10.ownsRow (w.heap.size + 2) 27 4 (.slice b9 H.length cap9) H.length (H.flatMap hdE)) := (unhide HO9).kept hgrow10 (by cases (Value.slice b9 H.length cap9).ownBlock <;> simp [Value.ownBlock])
  have HO10 : Hid (w10.ownsRow (w.heap.size + 2) 27 4 (.slice b10 W.length cap10) W.length (W.flatMap hdE)) := hown10
  have HNE : Hid ((Value.slice b9 H.length cap9).ownBlock = none ∨ (Value.slice b9 H.length cap9).ownBlock ≠ (Value.slice b10 W.length cap10).ownBlock) := by
    cases hq : (Value.slice b9 H.length cap9).ownBlock with
    | none => exact .inl rfl
    | some q =>
      right; intro e
      have h1 := ((unhide HO9).lt q hq).2
      rcases hat10 with k | k
      · rw [k] at e; simp [Value.ownBlock] at e
      · rw [k] at e; simp at e; omega
  clear hHeld
  refine hK.out _ _ ?_ (fun hHeld => ?_)
  · exact (Bx.three (T := 25) (by with_reducible (repeat (first | exact unhide HX10 | apply Bx.drewK | apply Bx.allocK | refine Bx.setK ?_ (by omega)))))
  clear hK K
  refine wpAnyH_take (i := 8) (v := ?v8x7) rfl (by kernel_rfl) (by kernel_rfl) (by kernel_rfl) (fun _ _ _ h => h) (Or.inl ⟨by rfl, ?hy8x7⟩) (by assumption) ?_
  case hy8x7 => (intro w0 hSw; obtain ⟨s0, s1, s2⟩ := hSw; go_simp; try (with_reducible rfl))
  try simp only [Act.put, List.setIfInBounds_toArray, List.set_cons_zero, List.set_cons_succ]
  obtain ⟨y0, y1, y2⟩ := (⟨(unhide HR10).cell 0, (unhide HR10).cell 1, (unhide HR10).cell 2⟩ : _ ∧ _ ∧ _)
  have f0 := (unhide HR10).free 0
  have f1 := (unhide HR10).free 1
  have f2 := (unhide HR10).free 2
  have lR := (unhide HR10).lt
  refine wpAnyH_ready (rs := [9]) (by kernel_rfl) (by simp) ?_
  refine AllReadyH.cons rfl (fun K hK => ?_) AllReadyH.nil
  go_simp
  try go_wp2_with fail
  refine hK.out _ _ ?_ (fun _ => ?_)
  · exact (Bx.three (T := 25) (by with_reducible (repeat (first | exact unhide HX10 | apply Bx.drewK | apply Bx.allocK | refine Bx.setK ?_ (by omega)))))
  clear hK K
  refine wpAnyH_done (by kernel_rfl) ?_ _
  go_wp2_with fail
  refine bodyPost_ret (results_cell_row rfl _ _ (w.heap.size + 1) _ _ _ _ rfl (heap_setCell_same _ _ _ _ _ _ (heap_setCell_same _ _ _ _ _ _ (heap_setCell_same _ _ _ _ _ _ (unhide HR10).row))) Try.underlying25 rfl (by kernel_rfl)) rfl ?_
  have bw : Below w.heap.size w w10 := (unhide HBB).trans ((unhide HB10).mono (by omega))
  have n1 : (Value.slice b9 H.length cap9).ownBlock ≠ some (w.heap.size + 1) := fun e => by have := ((unhide HA10).lt _ e).1; omega
  have n2 : (Value.slice b10 W.length cap10).ownBlock ≠ some (w.heap.size + 1) := fun e => by have := ((unhide HO10).lt _ e).1; omega
  have r1 := ownsRow_base (base' := w.heap.size) (ownsRow_setCell_other (j := 2) (u := (.slice b10 W.length cap10)) (ownsRow_setCell_other (j := 1) (u := (.slice b9 H.length cap9)) (ownsRow_setCell_other (j := 0) (u := .int .i64 slot) (unhide HA10) n1) n1) n1) (by omega)
  have r2 := ownsRow_base (base' := w.heap.size) (ownsRow_setCell_other (j := 2) (u := (.slice b10 W.length cap10)) (ownsRow_setCell_other (j := 1) (u := (.slice b9 H.length cap9)) (ownsRow_setCell_other (j := 0) (u := .int .i64 slot) (unhide HO10) n2) n2) n2) (by omega)
  exact ⟨_, _, by simp, r1, r2, unhide HNE, ((bw.setCell (by simp) _).setCell (by simp) _).setCell (by simp) _⟩

end Go.Proofs.Ytoojnhodjkpecaa
