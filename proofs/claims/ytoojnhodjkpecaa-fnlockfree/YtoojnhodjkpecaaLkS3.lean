/- The specification's copy of a lock. -/
import Derived.Test.YtoojnhodjkpecaaLkS2
import Derived.Test.YtoojnhodjkpecaaAppK2
import Derived.Deep.RegionHeld3
import Derived.Test.YtoojnhodjkpecaaResK
namespace Go.Proofs.Ytoojnhodjkpecaa
open Go.RowKit

theorem ownsRow_madeS {base e size : Nat} (w : World) (H : Nat) (hH : w.heap.size = H) (hb : base ≤ w.heap.size) : (w.alloc (.cells #[] e)).ownsRow base e size (.slice (some ⟨H, 0, none⟩) 0 0) 0 [] := by
  subst hH; exact World.ownsRow_made w #[] 0 hb (by simp [maxLen]) (by simp)

theorem Bx.drewK {w : World} {g : Nat} {T : TypeId} {cs : Array Value} (h : Bx w g T cs) : Bx w.drew g T cs := ⟨h.row⟩

theorem RowAt.drewK {α : Type} {enc : α → List Value} {w : World} {v : Value} {xs : List α} (h : RowAt enc w v xs) : RowAt enc w.drew v xs := h.kept ((Below.refl _ _).drew)
theorem RowAt.allocK {α : Type} {enc : α → List Value} {w : World} {v : Value} {xs : List α} {o : Obj} (h : RowAt enc w v xs) : RowAt enc (w.alloc o) v xs := h.kept ((Below.refl _ _).alloc (Nat.le_refl _) o)

theorem Bx.three {w : World} {g : Nat} {T : TypeId} {a b c : Value} (h : Bx w g T #[a, b, c]) : w.cell? ⟨g, 0, none⟩ = some a ∧ w.cell? ⟨g, 1, none⟩ = some b ∧ w.cell? ⟨g, 2, none⟩ = some c := ⟨h.cell 0, h.cell 1, h.cell 2⟩
theorem Bx.setK {w : World} {g g' j : Nat} {T : TypeId} {cs : Array Value} {u : Value} (h : Bx w g T cs) (hne : g' ≠ g) : Bx (w.setCell ⟨g', j, none⟩ u) g T cs := ⟨(Below.heap_setCell _ _ _ _ (by show g ≠ g'; omega)).trans h.row⟩

theorem hd_one (hs : List Hd) : ∀ u ∈ hs.flatMap hdE, u.oneCell' = true := fun u hu => by
  simp only [List.mem_flatMap] at hu
  obtain ⟨h, _, hh⟩ := hu
  simp [hdE] at hh
  rcases hh with rfl | rfl | rfl | rfl <;> rfl

set_option maxRecDepth 100000 in
set_option linter.unusedSimpArgs false in
set_option maxHeartbeats 4000000 in
theorem lkCopy_any (l : Lk) (a b : Value) (w : World) (hv : LkAt w l a b) (h1 : l.held.length ≤ 1000) (h2 : l.waits.length ≤ 1000) :
    Calls Try.prog 41 #[lkV l a b] w fun e w' => ∃ a' b', e = .returned (lkV l a' b') ∧ w'.ownsRow w.heap.size 27 4 a' l.held.length (l.held.flatMap hdE) ∧ w'.ownsRow w.heap.size 27 4 b' l.waits.length (l.waits.flatMap hdE) ∧ (a'.ownBlock = none ∨ a'.ownBlock ≠ b'.ownBlock) ∧ Below w.heap.size w w' := by
  obtain ⟨slot, H, W⟩ := l
  obtain ⟨hvh, hvw⟩ := hv
  simp only [lkV] at *
  obtain ⟨ah, ch, rfl, hlh⟩ := hvh.shape
  obtain ⟨aw, cw, rfl, hlw⟩ := hvw.shape
  obtain ⟨i0, hi, hz0, hz1, hz2⟩ := info_parts Try.infoHd
  have HH := hide hvh
  have HW := hide hvw
  clear hvh hvw hlh hlw
  go_enter Try.func41, Try.ntmps41
  go_wp2_with fail
  have bB : Below w.heap.size w ((w.alloc (.cells #[.int .i64 slot, .slice ah H.length ch, .slice aw W.length cw] 25)).alloc (.cells #[.int .i64 0, .slice none 0 0, .slice none 0 0] 25)) := ((Below.refl _ _).alloc (Nat.le_refl _) _).alloc (by simp) _
  have bx : Bx ((w.alloc (.cells #[.int .i64 slot, .slice ah H.length ch, .slice aw W.length cw] 25)).alloc (.cells #[.int .i64 0, .slice none 0 0, .slice none 0 0] 25)) w.heap.size 25 #[.int .i64 slot, .slice ah H.length ch, .slice aw W.length cw] := (Bx.made w _ _).allocK
  have rx : Bx ((w.alloc (.cells #[.int .i64 slot, .slice ah H.length ch, .slice aw W.length cw] 25)).alloc (.cells #[.int .i64 0, .slice none 0 0, .slice none 0 0] 25)) (w.heap.size + 1) 25 #[.int .i64 0, .slice none 0 0, .slice none 0 0] := by
    have := Bx.made (w.alloc (.cells #[.int .i64 slot, .slice ah H.length ch, .slice aw W.length cw] 25)) 25 #[.int .i64 0, .slice none 0 0, .slice none 0 0]
    rwa [show (w.alloc (.cells #[.int .i64 slot, .slice ah H.length ch, .slice aw W.length cw] 25)).heap.size = w.heap.size + 1 by simp] at this
  have z2 : ((w.alloc (.cells #[.int .i64 slot, .slice ah H.length ch, .slice aw W.length cw] 25)).alloc (.cells #[.int .i64 0, .slice none 0 0, .slice none 0 0] 25)).heap.size = w.heap.size + 2 := by simp
  generalize ((w.alloc (.cells #[.int .i64 slot, .slice ah H.length ch, .slice aw W.length cw] 25)).alloc (.cells #[.int .i64 0, .slice none 0 0, .slice none 0 0] 25)) = w2 at *
  have HH2 := hide ((unhide HH).kept bB)
  have HW2 := hide ((unhide HW).kept bB)
  have HRX := hide rx
  have HZ2 := hide z2
  have hz2' : w.heap.size + 2 ≤ w2.heap.size := by omega
  have HBB := hide bB
  have HBX := hide bx
  clear rx z2 bB bx
  refine wp_region_held_drew (S := fun w' => w'.cell? ⟨w.heap.size, 0, none⟩ = some (.int .i64 slot) ∧ w'.cell? ⟨w.heap.size, 1, none⟩ = some (.slice ah H.length ch) ∧ w'.cell? ⟨w.heap.size, 2, none⟩ = some (.slice aw W.length cw)) (by kernel_rfl) (Bx.three (T := 25) (by with_reducible (repeat (first | exact unhide HBX | apply Bx.drewK | apply Bx.allocK | refine Bx.setK ?_ (by omega))))) (fun hHeld => ?_)
  refine wpAnyH_take (i := 0) (v := ?v0x1) rfl (by kernel_rfl) (by kernel_rfl) (by kernel_rfl) (fun _ _ _ h => h) (Or.inl ⟨by rfl, ?hy0x1⟩) (by assumption) ?_
  case hy0x1 => (intro w0 hSw; obtain ⟨s0, s1, s2⟩ := hSw; go_simp; try (with_reducible rfl))
  try simp only [Act.put, List.setIfInBounds_toArray, List.set_cons_zero, List.set_cons_succ]
  refine wpAnyH_take (i := 1) (v := ?v1x2) rfl (by kernel_rfl) (by kernel_rfl) (by kernel_rfl) (fun _ _ _ h => h) (Or.inl ⟨by rfl, ?hy1x2⟩) (by assumption) ?_
  case hy1x2 => (intro w0 hSw; obtain ⟨s0, s1, s2⟩ := hSw; go_simp; try (with_reducible rfl))
  try simp only [Act.put, List.setIfInBounds_toArray, List.set_cons_zero, List.set_cons_succ]
  refine wpAnyH_take (i := 3) (v := ?v3x3) rfl (by kernel_rfl) (by kernel_rfl) (by kernel_rfl) (fun _ _ _ h => h) (Or.inl ⟨by rfl, ?hy3x3⟩) (by assumption) ?_
  case hy3x3 => (intro w0 hSw; obtain ⟨s0, s1, s2⟩ := hSw; go_simp; try (with_reducible rfl))
  try simp only [Act.put, List.setIfInBounds_toArray, List.set_cons_zero, List.set_cons_succ]
  refine wpAnyH_take (i := 4) (v := ?v4x4) rfl (by kernel_rfl) (by kernel_rfl) (by kernel_rfl) (fun _ _ _ h => h) (Or.inl ⟨by rfl, ?hy4x4⟩) (by assumption) ?_
  case hy4x4 => (intro w0 hSw; obtain ⟨s0, s1, s2⟩ := hSw; go_simp; try (with_reducible rfl))
  try simp only [Act.put, List.setIfInBounds_toArray, List.set_cons_zero, List.set_cons_succ]
  refine wpAnyH_take (i := 7) (v := ?v7x5) rfl (by kernel_rfl) (by kernel_rfl) (by kernel_rfl) (fun _ _ _ h => h) (Or.inl ⟨by rfl, ?hy7x5⟩) (by assumption) ?_
  case hy7x5 => (intro w0 hSw; obtain ⟨s0, s1, s2⟩ := hSw; go_simp; try (with_reducible rfl))
  try simp only [Act.put, List.setIfInBounds_toArray, List.set_cons_zero, List.set_cons_succ]
  refine wpAnyH_take (i := 8) (v := ?v8x6) rfl (by kernel_rfl) (by kernel_rfl) (by kernel_rfl) (fun _ _ _ h => h) (Or.inl ⟨by rfl, ?hy8x6⟩) (by assumption) ?_
  case hy8x6 => (intro w0 hSw; obtain ⟨s0, s1, s2⟩ := hSw; go_simp; try (with_reducible rfl))
  try simp only [Act.put, List.setIfInBounds_toArray, List.set_cons_zero, List.set_cons_succ]
  refine wpAnyH_ready (rs := [2, 6]) (by kernel_rfl) (by simp) ?_
  refine AllReadyH.cons rfl (fun K hK => ?_) ?_
  · -- 2
    go_simp
    clear hHeld
    refine hK.out _ _ ?_ (fun hHeld => ?_)
    · exact (Bx.three (T := 25) (by with_reducible (repeat (first | exact unhide HBX | apply Bx.drewK | apply Bx.allocK | refine Bx.setK ?_ (by omega)))))
    clear hK K
    refine wpAnyH_ready (rs := [5, 6]) (by kernel_rfl) (by simp) ?_
    refine AllReadyH.cons rfl (fun K hK => ?_) ?_
    · -- 2 5
      refine step_append_at (by rfl) (.tmp 5) (.tmp 7) 23 (by rfl) (w.heap.size + 2) 27 i0 (.agg #[.int .i64 0, .int .i64 0, .bool false, .bool false]) 4 24 Try.underlying23 hi hz0 hz1 hz2 rfl (by decide) (.slice (some ⟨w2.heap.size, 0, none⟩) 0 0) 0 [] (by rfl) (by with_reducible (repeat (first | exact ownsRow_madeS w2 _ rfl (by omega) | exact ownsRow_madeS w2.drew _ rfl (by simp; omega) | apply World.ownsRow.drew | apply World.ownsRow.alloc))) ah H.length ch (H.flatMap hdE) (by rfl) (flat_len hdE_len _) (RowAt.src (by with_reducible (repeat (first | exact unhide HH2 | apply RowAt.drewK | apply RowAt.allocK)))).2 (hd_one _) (by unfold maxLen; omega) (by omega) (by first | omega | (simp; omega) | (simp; done)) _ rfl ?_
      intro b9 cap9 w9 hown9 hgrow9 hat9
      rw [Nat.zero_add] at hown9 hat9 ⊢
      rw [List.nil_append] at hown9
      have HX9 : Hid (Bx w9 w.heap.size 25 #[.int .i64 slot, .slice ah H.length ch, .slice aw W.length cw]) := Bx.far (by with_reducible (repeat (first | exact unhide HBX | apply Bx.drewK | apply Bx.allocK))) hgrow9 (by simp [Value.ownBlock]; omega)
      have HR9 : Hid (Bx w9 (w.heap.size + 1) 25 #[.int .i64 0, .slice none 0 0, .slice none 0 0]) := Bx.far (by with_reducible (repeat (first | exact unhide HRX | apply Bx.drewK | apply Bx.allocK))) hgrow9 (by simp [Value.ownBlock]; omega)
      have HB9 : Hid (Below w2.heap.size w2 w9) := Below.grown (by with_reducible (repeat (first | exact Below.refl _ _ | apply Below.drew | refine Below.alloc ?_ (by simp) _))) hgrow9 (by first | (simp; done) | (simp; omega)) (fun q hq => by simp [Value.ownBlock] at hq; omega)
      have HW9 : Hid (RowAt hdE w9 (.slice aw W.length cw) W) := (unhide HW2).kept (unhide HB9)
      have HO9 := hide hown9
      have zB9 := (unhide HB9).size
      have z9 := hgrow9.size
      try simp at z9
      clear hHeld
      refine hK.out _ _ ?_ (fun hHeld => ?_)
      · exact (Bx.three (T := 25) (by with_reducible (repeat (first | exact unhide HX9 | apply Bx.drewK | apply Bx.allocK | refine Bx.setK ?_ (by omega)))))
      clear hK K
      refine wpAnyH_ready (rs := [6]) (by kernel_rfl) (by simp) ?_
      refine AllReadyH.cons rfl (fun K hK => ?_) AllReadyH.nil
      go_simp
      clear hHeld
      refine hK.out _ _ ?_ (fun hHeld => ?_)
      · exact (Bx.three (T := 25) (by with_reducible (repeat (first | exact unhide HX9 | apply Bx.drewK | apply Bx.allocK | refine Bx.setK ?_ (by omega)))))
      clear hK K
      refine wpAnyH_ready (rs := [9]) (by kernel_rfl) (by simp) ?_
      refine AllReadyH.cons rfl (fun K hK => ?_) AllReadyH.nil
      refine step_append_at (by rfl) (.tmp 9) (.tmp 11) 23 (by rfl) (w9.heap.size) 27 i0 (.agg #[.int .i64 0, .int .i64 0, .bool false, .bool false]) 4 24 Try.underlying23 hi hz0 hz1 hz2 rfl (by decide) (.slice (some ⟨w9.heap.size, 0, none⟩) 0 0) 0 [] (by rfl) (by with_reducible (repeat (first | exact ownsRow_madeS w9 _ rfl (Nat.le_refl _) | apply World.ownsRow.drew))) aw W.length cw (W.flatMap hdE) (by rfl) (flat_len hdE_len _) (RowAt.src (by with_reducible (repeat (first | exact unhide HW9 | apply RowAt.drewK | apply RowAt.allocK)))).2 (hd_one _) (by unfold maxLen; omega) (by omega) (by first | omega | (simp; omega) | (simp; done)) _ rfl ?_
      intro b10 cap10 w10 hown10 hgrow10 hat10
      rw [Nat.zero_add] at hown10 hat10 ⊢
      rw [List.nil_append] at hown10
      have HX10 : Hid (Bx w10 w.heap.size 25 #[.int .i64 slot, .slice ah H.length ch, .slice aw W.length cw]) := Bx.far (by with_reducible (repeat (first | exact unhide HX9 | apply Bx.drewK | apply Bx.allocK))) hgrow10 (by simp [Value.ownBlock]; have := (unhide HX9).lt; omega)
      have HR10 : Hid (Bx w10 (w.heap.size + 1) 25 #[.int .i64 0, .slice none 0 0, .slice none 0 0]) := Bx.far (by with_reducible (repeat (first | exact unhide HR9 | apply Bx.drewK | apply Bx.allocK))) hgrow10 (by simp [Value.ownBlock]; have := (unhide HR9).lt; omega)
      have HB10 : Hid (Below w2.heap.size w2 w10) := Below.grown ((unhide HB9).alloc (unhide HB9).size _) hgrow10 (by simp; have := (unhide HB9).size; omega) (fun q hq => by simp [Value.ownBlock] at hq; have := (unhide HB9).size; omega)
      have HA10 : Hid (w10.ownsRow (w.heap.size + 2) 27 4 (.slice b9 H.length cap9) H.length (H.flatMap hdE)) := ((unhide HO9).alloc _).kept hgrow10 (.inr (fun e => by simp only [Value.ownBlock] at e; have := ((unhide HO9).lt w9.heap.size e).2; omega))
      have HO10 : Hid (w10.ownsRow (w.heap.size + 2) 27 4 (.slice b10 W.length cap10) W.length (W.flatMap hdE)) := ownsRow_base hown10 (by omega)
      have HNE : Hid ((Value.slice b9 H.length cap9).ownBlock = none ∨ (Value.slice b9 H.length cap9).ownBlock ≠ (Value.slice b10 W.length cap10).ownBlock) := by
        cases hA : (Value.slice b9 H.length cap9).ownBlock with
        | none => exact .inl rfl
        | some g =>
          right; intro e
          have h1 := ((unhide HO9).lt g hA).2
          have h2 := (hown10.lt g e.symm).1
          omega
      clear hHeld
      refine hK.out _ _ ?_ (fun hHeld => ?_)
      · exact (Bx.three (T := 25) (by with_reducible (repeat (first | exact unhide HX10 | apply Bx.drewK | apply Bx.allocK | refine Bx.setK ?_ (by omega)))))
      clear hK K
      refine wpAnyH_take (i := 10) (v := ?v10x7) rfl (by kernel_rfl) (by kernel_rfl) (by kernel_rfl) (fun _ _ _ h => h) (Or.inl ⟨by rfl, ?hy10x7⟩) (by assumption) ?_
      case hy10x7 => (intro w0 hSw; obtain ⟨s0, s1, s2⟩ := hSw; go_simp; try (with_reducible rfl))
      try simp only [Act.put, List.setIfInBounds_toArray, List.set_cons_zero, List.set_cons_succ]
      obtain ⟨y0, y1, y2⟩ := (⟨(unhide HR10).cell 0, (unhide HR10).cell 1, (unhide HR10).cell 2⟩ : _ ∧ _ ∧ _)
      have f0 := (unhide HR10).free 0
      have f1 := (unhide HR10).free 1
      have f2 := (unhide HR10).free 2
      have lR := (unhide HR10).lt
      refine wpAnyH_ready (rs := [11]) (by kernel_rfl) (by simp) ?_
      refine AllReadyH.cons rfl (fun K hK => ?_) AllReadyH.nil
      go_simp
      try go_wp2_with fail
      refine hK.out _ _ ?_ (fun _ => ?_)
      · exact (Bx.three (T := 25) (by with_reducible (repeat (first | exact unhide HX10 | apply Bx.drewK | apply Bx.allocK | refine Bx.setK ?_ (by omega)))))
      clear hK K
      refine wpAnyH_done (by kernel_rfl) ?_ _
      go_wp2_with fail
      refine bodyPost_ret (results_cell_row rfl _ _ (w.heap.size + 1) _ _ _ _ rfl (heap_setCell_same _ _ _ _ _ _ (heap_setCell_same _ _ _ _ _ _ (heap_setCell_same _ _ _ _ _ _ (unhide HR10).row))) Try.underlying25 rfl (by kernel_rfl)) rfl ?_
      have bw : Below w.heap.size w w10 := (unhide HBB).trans ((unhide HB10).mono (by omega))
      have n1 : (Value.slice b9 H.length cap9).ownBlock ≠ some (w.heap.size + 1) := fun e => by have := ((unhide HA10).lt _ e).1; omega
      have n2 : (Value.slice b10 W.length cap10).ownBlock ≠ some (w.heap.size + 1) := fun e => by have := ((unhide HO10).lt _ e).1; omega
      refine ⟨_, _, by simp, ownsRow_base (ownsRow_setCell_other (ownsRow_setCell_other (ownsRow_setCell_other (unhide HA10) n1) n1) n1) (by omega), ownsRow_base (ownsRow_setCell_other (ownsRow_setCell_other (ownsRow_setCell_other (unhide HO10) n2) n2) n2) (by omega), unhide HNE, ((bw.setCell (by simp) _).setCell (by simp) _).setCell (by simp) _⟩
    refine AllReadyH.cons rfl (fun K hK => ?_) AllReadyH.nil
    go_simp
    clear hHeld
    refine hK.out _ _ ?_ (fun hHeld => ?_)
    · exact (Bx.three (T := 25) (by with_reducible (repeat (first | exact unhide HBX | apply Bx.drewK | apply Bx.allocK | refine Bx.setK ?_ (by omega)))))
    clear hK K
    refine wpAnyH_ready (rs := [5]) (by kernel_rfl) (by simp) ?_
    refine AllReadyH.cons rfl (fun K hK => ?_) AllReadyH.nil
    refine step_append_at (by rfl) (.tmp 5) (.tmp 7) 23 (by rfl) (w.heap.size + 2) 27 i0 (.agg #[.int .i64 0, .int .i64 0, .bool false, .bool false]) 4 24 Try.underlying23 hi hz0 hz1 hz2 rfl (by decide) (.slice (some ⟨w2.heap.size, 0, none⟩) 0 0) 0 [] (by rfl) (by with_reducible (repeat (first | exact ownsRow_madeS w2 _ rfl (by omega) | exact ownsRow_madeS w2.drew _ rfl (by simp; omega) | apply World.ownsRow.drew | apply World.ownsRow.alloc))) ah H.length ch (H.flatMap hdE) (by rfl) (flat_len hdE_len _) (RowAt.src (by with_reducible (repeat (first | exact unhide HH2 | apply RowAt.drewK | apply RowAt.allocK)))).2 (hd_one _) (by unfold maxLen; omega) (by omega) (by first | omega | (simp; omega) | (simp; done)) _ rfl ?_
    intro b9 cap9 w9 hown9 hgrow9 hat9
    rw [Nat.zero_add] at hown9 hat9 ⊢
    rw [List.nil_append] at hown9
    have HX9 : Hid (Bx w9 w.heap.size 25 #[.int .i64 slot, .slice ah H.length ch, .slice aw W.length cw]) := Bx.far (by with_reducible (repeat (first | exact unhide HBX | apply Bx.drewK | apply Bx.allocK))) hgrow9 (by simp [Value.ownBlock]; omega)
    have HR9 : Hid (Bx w9 (w.heap.size + 1) 25 #[.int .i64 0, .slice none 0 0, .slice none 0 0]) := Bx.far (by with_reducible (repeat (first | exact unhide HRX | apply Bx.drewK | apply Bx.allocK))) hgrow9 (by simp [Value.ownBlock]; omega)
    have HB9 : Hid (Below w2.heap.size w2 w9) := Below.grown (by with_reducible (repeat (first | exact Below.refl _ _ | apply Below.drew | refine Below.alloc ?_ (by simp) _))) hgrow9 (by first | (simp; done) | (simp; omega)) (fun q hq => by simp [Value.ownBlock] at hq; omega)
    have HW9 : Hid (RowAt hdE w9 (.slice aw W.length cw) W) := (unhide HW2).kept (unhide HB9)
    have HO9 := hide hown9
    have zB9 := (unhide HB9).size
    have z9 := hgrow9.size
    try simp at z9
    have HOB : Hid (w9.ownsRow (w.heap.size + 2) 27 4 (.slice (some ⟨w2.heap.size + 1, 0, none⟩) 0 0) 0 []) := World.ownsRow.kept (by with_reducible (repeat (first | exact ownsRow_madeS (w2.alloc (.cells #[] 27)) _ (by simp) (by simp; omega) | exact ownsRow_madeS (w2.drew.alloc (.cells #[] 27)) _ (by simp) (by simp; omega) | apply World.ownsRow.drew | apply World.ownsRow.alloc))) hgrow9 (.inr (by simp [Value.ownBlock]))
    clear hHeld
    refine hK.out _ _ ?_ (fun hHeld => ?_)
    · exact (Bx.three (T := 25) (by with_reducible (repeat (first | exact unhide HX9 | apply Bx.drewK | apply Bx.allocK | refine Bx.setK ?_ (by omega)))))
    clear hK K
    refine wpAnyH_ready (rs := [9]) (by kernel_rfl) (by simp) ?_
    refine AllReadyH.cons rfl (fun K hK => ?_) AllReadyH.nil
    refine step_append_at (by rfl) (.tmp 9) (.tmp 11) 23 (by rfl) (w.heap.size + 2) 27 i0 (.agg #[.int .i64 0, .int .i64 0, .bool false, .bool false]) 4 24 Try.underlying23 hi hz0 hz1 hz2 rfl (by decide) (.slice (some ⟨w2.heap.size + 1, 0, none⟩) 0 0) 0 [] (by rfl) (unhide HOB) aw W.length cw (W.flatMap hdE) (by rfl) (flat_len hdE_len _) (RowAt.src (by with_reducible (repeat (first | exact unhide HW9 | apply RowAt.drewK | apply RowAt.allocK)))).2 (hd_one _) (by unfold maxLen; omega) (by omega) (by first | omega | (simp; omega) | (simp; done)) _ rfl ?_
    intro b10 cap10 w10 hown10 hgrow10 hat10
    rw [Nat.zero_add] at hown10 hat10 ⊢
    rw [List.nil_append] at hown10
    have HX10 : Hid (Bx w10 w.heap.size 25 #[.int .i64 slot, .slice ah H.length ch, .slice aw W.length cw]) := Bx.far (by with_reducible (repeat (first | exact unhide HX9 | apply Bx.drewK | apply Bx.allocK))) hgrow10 (by simp [Value.ownBlock]; omega)
    have HR10 : Hid (Bx w10 (w.heap.size + 1) 25 #[.int .i64 0, .slice none 0 0, .slice none 0 0]) := Bx.far (by with_reducible (repeat (first | exact unhide HR9 | apply Bx.drewK | apply Bx.allocK))) hgrow10 (by simp [Value.ownBlock]; omega)
    have HB10 : Hid (Below w2.heap.size w2 w10) := Below.grown (unhide HB9) hgrow10 (unhide HB9).size (fun q hq => by simp [Value.ownBlock] at hq; omega)
    have HA10 : Hid (w10.ownsRow (w.heap.size + 2) 27 4 (.slice b9 H.length cap9) H.length (H.flatMap hdE)) := (unhide HO9).kept hgrow10 (.inr (fun e => by rcases hat9 with h | h <;> (rw [h] at e; simp [Value.ownBlock] at e; try omega)))
    have HO10 : Hid (w10.ownsRow (w.heap.size + 2) 27 4 (.slice b10 W.length cap10) W.length (W.flatMap hdE)) := ownsRow_base hown10 (by omega)
    have HNE : Hid ((Value.slice b9 H.length cap9).ownBlock = none ∨ (Value.slice b9 H.length cap9).ownBlock ≠ (Value.slice b10 W.length cap10).ownBlock) := by
      right; intro e
      rcases hat10 with k | k
      · rw [k] at e; rcases hat9 with h | h <;> (rw [h] at e; simp [Value.ownBlock] at e; try omega)
      · have h1 := ((unhide HO9).lt w9.heap.size (e.trans k)).2; omega
    clear hHeld
    refine hK.out _ _ ?_ (fun hHeld => ?_)
    · exact (Bx.three (T := 25) (by with_reducible (repeat (first | exact unhide HX10 | apply Bx.drewK | apply Bx.allocK | refine Bx.setK ?_ (by omega)))))
    clear hK K
    refine wpAnyH_take (i := 10) (v := ?v10x8) rfl (by kernel_rfl) (by kernel_rfl) (by kernel_rfl) (fun _ _ _ h => h) (Or.inl ⟨by rfl, ?hy10x8⟩) (by assumption) ?_
    case hy10x8 => (intro w0 hSw; obtain ⟨s0, s1, s2⟩ := hSw; go_simp; try (with_reducible rfl))
    try simp only [Act.put, List.setIfInBounds_toArray, List.set_cons_zero, List.set_cons_succ]
    obtain ⟨y0, y1, y2⟩ := (⟨(unhide HR10).cell 0, (unhide HR10).cell 1, (unhide HR10).cell 2⟩ : _ ∧ _ ∧ _)
    have f0 := (unhide HR10).free 0
    have f1 := (unhide HR10).free 1
    have f2 := (unhide HR10).free 2
    have lR := (unhide HR10).lt
    refine wpAnyH_ready (rs := [11]) (by kernel_rfl) (by simp) ?_
    refine AllReadyH.cons rfl (fun K hK => ?_) AllReadyH.nil
    go_simp
    try go_wp2_with fail
    refine hK.out _ _ ?_ (fun _ => ?_)
    · exact (Bx.three (T := 25) (by with_reducible (repeat (first | exact unhide HX10 | apply Bx.drewK | apply Bx.allocK | refine Bx.setK ?_ (by omega)))))
    clear hK K
    refine wpAnyH_done (by kernel_rfl) ?_ _
    go_wp2_with fail
    refine bodyPost_ret (results_cell_row rfl _ _ (w.heap.size + 1) _ _ _ _ rfl (heap_setCell_same _ _ _ _ _ _ (heap_setCell_same _ _ _ _ _ _ (heap_setCell_same _ _ _ _ _ _ (unhide HR10).row))) Try.underlying25 rfl (by kernel_rfl)) rfl ?_
    have bw : Below w.heap.size w w10 := (unhide HBB).trans ((unhide HB10).mono (by omega))
    have n1 : (Value.slice b9 H.length cap9).ownBlock ≠ some (w.heap.size + 1) := fun e => by have := ((unhide HA10).lt _ e).1; omega
    have n2 : (Value.slice b10 W.length cap10).ownBlock ≠ some (w.heap.size + 1) := fun e => by have := ((unhide HO10).lt _ e).1; omega
    refine ⟨_, _, by simp, ownsRow_base (ownsRow_setCell_other (ownsRow_setCell_other (ownsRow_setCell_other (unhide HA10) n1) n1) n1) (by omega), ownsRow_base (ownsRow_setCell_other (ownsRow_setCell_other (ownsRow_setCell_other (unhide HO10) n2) n2) n2) (by omega), unhide HNE, ((bw.setCell (by simp) _).setCell (by simp) _).setCell (by simp) _⟩
  refine AllReadyH.cons rfl (fun K hK => ?_) AllReadyH.nil
  go_simp
  clear hHeld
  refine hK.out _ _ ?_ (fun hHeld => ?_)
  · exact (Bx.three (T := 25) (by with_reducible (repeat (first | exact unhide HBX | apply Bx.drewK | apply Bx.allocK | refine Bx.setK ?_ (by omega)))))
  clear hK K
  refine wpAnyH_ready (rs := [2]) (by kernel_rfl) (by simp) ?_
  refine AllReadyH.cons rfl (fun K hK => ?_) AllReadyH.nil
  go_simp
  clear hHeld
  refine hK.out _ _ ?_ (fun hHeld => ?_)
  · exact (Bx.three (T := 25) (by with_reducible (repeat (first | exact unhide HBX | apply Bx.drewK | apply Bx.allocK | refine Bx.setK ?_ (by omega)))))
  clear hK K
  refine wpAnyH_ready (rs := [5]) (by kernel_rfl) (by simp) ?_
  refine AllReadyH.cons rfl (fun K hK => ?_) AllReadyH.nil
  refine step_append_at (by rfl) (.tmp 5) (.tmp 7) 23 (by rfl) (w.heap.size + 2) 27 i0 (.agg #[.int .i64 0, .int .i64 0, .bool false, .bool false]) 4 24 Try.underlying23 hi hz0 hz1 hz2 rfl (by decide) (.slice (some ⟨w2.heap.size + 1, 0, none⟩) 0 0) 0 [] (by rfl) (by with_reducible (repeat (first | exact ownsRow_madeS (w2.alloc (.cells #[] 27)) _ (by simp) (by simp; omega) | exact ownsRow_madeS (w2.drew.alloc (.cells #[] 27)) _ (by simp) (by simp; omega) | apply World.ownsRow.drew | apply World.ownsRow.alloc))) ah H.length ch (H.flatMap hdE) (by rfl) (flat_len hdE_len _) (RowAt.src (by with_reducible (repeat (first | exact unhide HH2 | apply RowAt.drewK | apply RowAt.allocK)))).2 (hd_one _) (by unfold maxLen; omega) (by omega) (by first | omega | (simp; omega) | (simp; done)) _ rfl ?_
  intro b9 cap9 w9 hown9 hgrow9 hat9
  rw [Nat.zero_add] at hown9 hat9 ⊢
  rw [List.nil_append] at hown9
  have HX9 : Hid (Bx w9 w.heap.size 25 #[.int .i64 slot, .slice ah H.length ch, .slice aw W.length cw]) := Bx.far (by with_reducible (repeat (first | exact unhide HBX | apply Bx.drewK | apply Bx.allocK))) hgrow9 (by simp [Value.ownBlock]; omega)
  have HR9 : Hid (Bx w9 (w.heap.size + 1) 25 #[.int .i64 0, .slice none 0 0, .slice none 0 0]) := Bx.far (by with_reducible (repeat (first | exact unhide HRX | apply Bx.drewK | apply Bx.allocK))) hgrow9 (by simp [Value.ownBlock]; omega)
  have HB9 : Hid (Below w2.heap.size w2 w9) := Below.grown (by with_reducible (repeat (first | exact Below.refl _ _ | apply Below.drew | refine Below.alloc ?_ (by simp) _))) hgrow9 (by first | (simp; done) | (simp; omega)) (fun q hq => by simp [Value.ownBlock] at hq; omega)
  have HW9 : Hid (RowAt hdE w9 (.slice aw W.length cw) W) := (unhide HW2).kept (unhide HB9)
  have HO9 := hide hown9
  have zB9 := (unhide HB9).size
  have z9 := hgrow9.size
  try simp at z9
  have HOB : Hid (w9.ownsRow (w.heap.size + 2) 27 4 (.slice (some ⟨w2.heap.size, 0, none⟩) 0 0) 0 []) := World.ownsRow.kept (by with_reducible (repeat (first | exact ownsRow_madeS w2 _ rfl (by omega) | exact ownsRow_madeS w2.drew _ rfl (by simp; omega) | apply World.ownsRow.drew | apply World.ownsRow.alloc))) hgrow9 (.inr (by simp [Value.ownBlock]))
  clear hHeld
  refine hK.out _ _ ?_ (fun hHeld => ?_)
  · exact (Bx.three (T := 25) (by with_reducible (repeat (first | exact unhide HX9 | apply Bx.drewK | apply Bx.allocK | refine Bx.setK ?_ (by omega)))))
  clear hK K
  refine wpAnyH_ready (rs := [9]) (by kernel_rfl) (by simp) ?_
  refine AllReadyH.cons rfl (fun K hK => ?_) AllReadyH.nil
  refine step_append_at (by rfl) (.tmp 9) (.tmp 11) 23 (by rfl) (w.heap.size + 2) 27 i0 (.agg #[.int .i64 0, .int .i64 0, .bool false, .bool false]) 4 24 Try.underlying23 hi hz0 hz1 hz2 rfl (by decide) (.slice (some ⟨w2.heap.size, 0, none⟩) 0 0) 0 [] (by rfl) (unhide HOB) aw W.length cw (W.flatMap hdE) (by rfl) (flat_len hdE_len _) (RowAt.src (by with_reducible (repeat (first | exact unhide HW9 | apply RowAt.drewK | apply RowAt.allocK)))).2 (hd_one _) (by unfold maxLen; omega) (by omega) (by first | omega | (simp; omega) | (simp; done)) _ rfl ?_
  intro b10 cap10 w10 hown10 hgrow10 hat10
  rw [Nat.zero_add] at hown10 hat10 ⊢
  rw [List.nil_append] at hown10
  have HX10 : Hid (Bx w10 w.heap.size 25 #[.int .i64 slot, .slice ah H.length ch, .slice aw W.length cw]) := Bx.far (by with_reducible (repeat (first | exact unhide HX9 | apply Bx.drewK | apply Bx.allocK))) hgrow10 (by simp [Value.ownBlock]; omega)
  have HR10 : Hid (Bx w10 (w.heap.size + 1) 25 #[.int .i64 0, .slice none 0 0, .slice none 0 0]) := Bx.far (by with_reducible (repeat (first | exact unhide HR9 | apply Bx.drewK | apply Bx.allocK))) hgrow10 (by simp [Value.ownBlock]; omega)
  have HB10 : Hid (Below w2.heap.size w2 w10) := Below.grown (unhide HB9) hgrow10 (unhide HB9).size (fun q hq => by simp [Value.ownBlock] at hq; omega)
  have HA10 : Hid (w10.ownsRow (w.heap.size + 2) 27 4 (.slice b9 H.length cap9) H.length (H.flatMap hdE)) := (unhide HO9).kept hgrow10 (.inr (fun e => by rcases hat9 with h | h <;> (rw [h] at e; simp [Value.ownBlock] at e; try omega)))
  have HO10 : Hid (w10.ownsRow (w.heap.size + 2) 27 4 (.slice b10 W.length cap10) W.length (W.flatMap hdE)) := ownsRow_base hown10 (by omega)
  have HNE : Hid ((Value.slice b9 H.length cap9).ownBlock = none ∨ (Value.slice b9 H.length cap9).ownBlock ≠ (Value.slice b10 W.length cap10).ownBlock) := by
    right; intro e
    rcases hat10 with k | k
    · rw [k] at e; rcases hat9 with h | h <;> (rw [h] at e; simp [Value.ownBlock] at e; try omega)
    · have h1 := ((unhide HO9).lt w9.heap.size (e.trans k)).2; omega
  clear hHeld
  refine hK.out _ _ ?_ (fun hHeld => ?_)
  · exact (Bx.three (T := 25) (by with_reducible (repeat (first | exact unhide HX10 | apply Bx.drewK | apply Bx.allocK | refine Bx.setK ?_ (by omega)))))
  clear hK K
  refine wpAnyH_take (i := 10) (v := ?v10x9) rfl (by kernel_rfl) (by kernel_rfl) (by kernel_rfl) (fun _ _ _ h => h) (Or.inl ⟨by rfl, ?hy10x9⟩) (by assumption) ?_
  case hy10x9 => (intro w0 hSw; obtain ⟨s0, s1, s2⟩ := hSw; go_simp; try (with_reducible rfl))
  try simp only [Act.put, List.setIfInBounds_toArray, List.set_cons_zero, List.set_cons_succ]
  obtain ⟨y0, y1, y2⟩ := (⟨(unhide HR10).cell 0, (unhide HR10).cell 1, (unhide HR10).cell 2⟩ : _ ∧ _ ∧ _)
  have f0 := (unhide HR10).free 0
  have f1 := (unhide HR10).free 1
  have f2 := (unhide HR10).free 2
  have lR := (unhide HR10).lt
  refine wpAnyH_ready (rs := [11]) (by kernel_rfl) (by simp) ?_
  refine AllReadyH.cons rfl (fun K hK => ?_) AllReadyH.nil
  go_simp
  try go_wp2_with fail
  refine hK.out _ _ ?_ (fun _ => ?_)
  · exact (Bx.three (T := 25) (by with_reducible (repeat (first | exact unhide HX10 | apply Bx.drewK | apply Bx.allocK | refine Bx.setK ?_ (by omega)))))
  clear hK K
  refine wpAnyH_done (by kernel_rfl) ?_ _
  go_wp2_with fail
  refine bodyPost_ret (results_cell_row rfl _ _ (w.heap.size + 1) _ _ _ _ rfl (heap_setCell_same _ _ _ _ _ _ (heap_setCell_same _ _ _ _ _ _ (heap_setCell_same _ _ _ _ _ _ (unhide HR10).row))) Try.underlying25 rfl (by kernel_rfl)) rfl ?_
  have bw : Below w.heap.size w w10 := (unhide HBB).trans ((unhide HB10).mono (by omega))
  have n1 : (Value.slice b9 H.length cap9).ownBlock ≠ some (w.heap.size + 1) := fun e => by have := ((unhide HA10).lt _ e).1; omega
  have n2 : (Value.slice b10 W.length cap10).ownBlock ≠ some (w.heap.size + 1) := fun e => by have := ((unhide HO10).lt _ e).1; omega
  refine ⟨_, _, by simp, ownsRow_base (ownsRow_setCell_other (ownsRow_setCell_other (ownsRow_setCell_other (unhide HA10) n1) n1) n1) (by omega), ownsRow_base (ownsRow_setCell_other (ownsRow_setCell_other (ownsRow_setCell_other (unhide HO10) n2) n2) n2) (by omega), unhide HNE, ((bw.setCell (by simp) _).setCell (by simp) _).setCell (by simp) _⟩

end Go.Proofs.Ytoojnhodjkpecaa
