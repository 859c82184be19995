/- The program lets one in: it holds the lock, or waits. -/
import Derived.Test.YtoojnhodjkpecaaLkIC
namespace Go.Proofs.Ytoojnhodjkpecaa
open Go.RowKit Go.Shelf

theorem fr_drewS {w w' : World} {S : Nat → Prop} (h : Fr w.drew w' S) : Fr w w' S := ⟨h.os, h.tape, h.output, h.size, h.block⟩

set_option maxRecDepth 100000 in
set_option maxHeartbeats 4000000 in
theorem letIn_any (g : Nat) (l : Lk) (a b : Value) (h : Hd) (base : Nat) (w : World) (hbx : Bx w g 25 #[.int .i64 l.slot, a, b]) (ho : OwnLk w base l a b) (hga : a.ownBlock ≠ some g) (hgb : b.ownBlock ≠ some g) (hbase : base ≤ w.heap.size) (hn : l.held.length ≤ 1000) (hm : l.waits.length ≤ 1000) :
    Calls Try.prog 55 #[.pointer (some ⟨g, 0, none⟩), hdV h] w fun e w' => ∃ a' b', e = .returned (.bool (letInC l h)) ∧ Bx w' g 25 #[.int .i64 (letInL l h).slot, a', b'] ∧ OwnLk w' base (letInL l h) a' b' ∧ Fr w w' (fun k => k = g ∨ a.ownBlock = some k ∨ b.ownBlock = some k) ∧ (a'.ownBlock = a.ownBlock ∨ ∃ q, a'.ownBlock = some q ∧ w.heap.size ≤ q) ∧ (b'.ownBlock = b.ownBlock ∨ ∃ q, b'.ownBlock = some q ∧ w.heap.size ≤ q) := by
  obtain ⟨slot, H, W⟩ := l
  obtain ⟨ah, ch, aw, cw, rfl, rfl⟩ := ho.shape
  have HCI : Hid (letInC ⟨slot, H, W⟩ h = !(H.any (meetB h) || W.any (behindB h))) := rfl
  have HLI : Hid (letInL ⟨slot, H, W⟩ h = if (H.any (meetB h) || W.any (behindB h)) = true then ⟨slot, H, putI W h⟩ else ⟨slot, putI H h, W⟩) := rfl
  have HPIW := hide (fun ww ho hb => putInOrder_any (.slice aw W.length cw) W h base ww ho hm hb)
  have HPIH := hide (fun ww ho hb => putInOrder_any (.slice ah H.length ch) H h base ww ho hn hb)
  have HM1 := hide (fun ww hk => hasMeet_any h (.slice ah H.length ch) H ww hk)
  have HM2 := hide (fun ww hk => hasBehind_any h (.slice aw W.length cw) W ww hk)
  have HOW := hide ho
  obtain ⟨hs, ht, hsh, hf⟩ := h
  unfold hdV at *
  simp only at *
  generalize letInC ⟨slot, H, W⟩ ⟨hs, ht, hsh, hf⟩ = LC at *
  generalize letInL ⟨slot, H, W⟩ ⟨hs, ht, hsh, hf⟩ = LL at *
  have bA : Below w.heap.size w (w.alloc (.cells #[.int .i64 hs, .int .i64 ht, .bool hsh, .bool hf] 27)) := (Below.refl _ _).alloc (Nat.le_refl _) _
  have HB0 := hide bA
  have HX0 := hide (hbx.kept bA)
  have HY0 := hide (Bx.made w 27 #[.int .i64 hs, .int .i64 ht, .bool hsh, .bool hf])
  have HM1' : Hid (∀ d os, Calls Try.prog 69 #[.slice ah H.length ch, .func (.func 70) #[.agg #[.int .i64 hs, .int .i64 ht, .bool hsh, .bool hf]] #[]] (Go.Sort.grow (redrawn (w.alloc (.cells #[.int .i64 hs, .int .i64 ht, .bool hsh, .bool hf] 27)) d) os) fun e w' => e = .returned (.bool (H.any (meetB ⟨hs, ht, hsh, hf⟩))) ∧ Below (Go.Sort.grow (redrawn (w.alloc (.cells #[.int .i64 hs, .int .i64 ht, .bool hsh, .bool hf] 27)) d) os).heap.size (Go.Sort.grow (redrawn (w.alloc (.cells #[.int .i64 hs, .int .i64 ht, .bool hsh, .bool hf] 27)) d) os) w') := fun d os => unhide HM1 _ ((ho.at.held.kept bA).kept (below_regrown _ d os))
  have HM2' : Hid (∀ d os, Calls Try.prog 69 #[.slice aw W.length cw, .func (.func 71) #[.agg #[.int .i64 hs, .int .i64 ht, .bool hsh, .bool hf]] #[]] (Go.Sort.grow (redrawn (w.alloc (.cells #[.int .i64 hs, .int .i64 ht, .bool hsh, .bool hf] 27)) d) os) fun e w' => e = .returned (.bool (W.any (behindB ⟨hs, ht, hsh, hf⟩))) ∧ Below (Go.Sort.grow (redrawn (w.alloc (.cells #[.int .i64 hs, .int .i64 ht, .bool hsh, .bool hf] 27)) d) os).heap.size (Go.Sort.grow (redrawn (w.alloc (.cells #[.int .i64 hs, .int .i64 ht, .bool hsh, .bool hf] 27)) d) os) w') := fun d os => unhide HM2 _ ((ho.at.waits.kept bA).kept (below_regrown _ d os))
  obtain ⟨c0, c1, c2⟩ := (unhide HX0).three
  obtain ⟨d0, d1, d2, d3⟩ := (unhide HY0).four
  have p0 := fun d os => cell_regrown c0 d os
  have p1 := fun d os => cell_regrown c1 d os
  have p2 := fun d os => cell_regrown c2 d os
  have q0 := fun d os => cell_regrown d0 d os
  have q1 := fun d os => cell_regrown d1 d os
  have q2 := fun d os => cell_regrown d2 d os
  have q3 := fun d os => cell_regrown d3 d os
  clear c0 c1 c2 d0 d1 d2 d3 ho hbx bA HM1 HM2
  cases t1 : H.any (meetB ⟨hs, ht, hsh, hf⟩)
  case true =>
    rw [t1] at HM1'
    have HT1 := hide t1
    clear t1
    go_enter Try.func55, Try.ntmps55
    go_wp2_with fail
    refine wp_region_quiet_below (by kernel_rfl) (by kernel_rfl) ?_
    repeat (go_big_quiet_step ((go_at_call 69; refine Calls.regrown_of (unhide HM1' _ _))))
    refine wpQuiet_nil ?_
    intro w9 hw9
    have hb9 : Below (w.alloc (.cells #[.int .i64 hs, .int .i64 ht, .bool hsh, .bool hf] 27)).heap.size (w.alloc (.cells #[.int .i64 hs, .int .i64 ht, .bool hsh, .bool hf] 27)) w9 := by obtain ⟨p, e⟩ := hw9; rw [e]; exact below_regrown _ _ _
    have HB9 := hide ((unhide HB0).trans (hb9.mono (unhide HB0).size))
    have HX9 := hide ((unhide HX0).kept hb9)
    have HY9 := hide ((unhide HY0).kept hb9)
    clear hw9 hb9 p0 p1 p2 q0 q1 q2 q3
    have HO9 := hide ((unhide HOW).kept (unhide HB9))
    obtain ⟨q0, q1, q2⟩ := (unhide HX9).three
    obtain ⟨r0, r1, r2, r3⟩ := (unhide HY9).four
    have z9 := (unhide HB9).size
    go_wp2_with fail
    go_region_law ((go_simp; go_at_call 72; refine (unhide HPIW w9.drew (World.ownsRow.drew (unhide HO9).waits) (by show base ≤ w9.heap.size; omega)).mono ?_; rintro e w8 ⟨r, rfl, ho8, hg8, ha8⟩; have HX8 := hide (((unhide HX9).drewK).far hg8 (by intro e; exact hgb e.symm)); have q0' := (unhide HX8).cell 0; have q1' := (unhide HX8).cell 1; have q2' := (unhide HX8).cell 2; have f0' := (unhide HX8).free 0; have f1' := (unhide HX8).free 1; have f2' := (unhide HX8).free 2; obtain ⟨ra, rc, rfl, -⟩ := ownsRow_slice ho8; simp at q0' q1' q2'))
    all_goals
      have HO8 := hide ho8
      have HG8 := hide hg8
      have HA8 := hide ha8
      clear ho8 hg8 ha8
    all_goals go_wp2_with fail
    all_goals go_ret
    all_goals
      have hF : Fr w w8 (fun k => k = g ∨ (Value.slice ah H.length ch).ownBlock = some k ∨ (Value.slice aw W.length cw).ownBlock = some k) := (fr_below (unhide HB9) _).trans (fr_drewS (fr_gr (unhide HG8))) (fun i _ e => .inr (.inr e))
      have hoth : w8.ownsRow base 27 4 (.slice ah H.length ch) H.length (H.flatMap hdE) := (World.ownsRow.drew (unhide HO9).held).kept (unhide HG8) ((unhide HO9).ne)
      have hnew : (Value.slice ra (putI W ⟨hs, ht, hsh, hf⟩).length rc).ownBlock = none ∨ (Value.slice ra (putI W ⟨hs, ht, hsh, hf⟩).length rc).ownBlock ≠ (Value.slice ah H.length ch).ownBlock := by
        rcases unhide HA8 with e | ⟨q, e, hq⟩
        · rw [e]; exact ne_sym (unhide HO9).ne
        · rw [e]; right; intro e2
          have := ((unhide HO9).held.lt q e2.symm).2
          simp at hq; omega
      have ng1 : (Value.slice ah H.length ch).ownBlock ≠ some g := hga
      have ng2 : (Value.slice ra (putI W ⟨hs, ht, hsh, hf⟩).length rc).ownBlock ≠ some g := by
        rcases unhide HA8 with e | ⟨q, e, hq⟩
        · rw [e]; exact hgb
        · rw [e]; intro e2; have := (unhide HX9).lt; simp at e2 hq; omega
      rw [unhide HLI, unhide HCI, if_pos (by rw [unhide HT1]; rfl), unhide HT1]
      refine ⟨_, _, rfl, by simpa using (unhide HX8).setC 2 (.slice ra (putI W ⟨hs, ht, hsh, hf⟩).length rc), ?_, hF.set g 2 _ (fun _ => .inl rfl), .inl rfl, (unhide HA8).elim .inl (fun ⟨q, e, hq⟩ => .inr ⟨q, e, by simp at hq; omega⟩)⟩
      exact ⟨ownsRow_setCell_other hoth ng1, ownsRow_setCell_other (unhide HO8) ng2, ne_sym hnew⟩
  rw [t1] at HM1'
  have HT1 := hide t1
  clear t1
  cases t2 : W.any (behindB ⟨hs, ht, hsh, hf⟩)
  case true =>
    rw [t2] at HM2'
    have HT2 := hide t2
    clear t2
    go_enter Try.func55, Try.ntmps55
    go_wp2_with fail
    refine wp_region_quiet_below (by kernel_rfl) (by kernel_rfl) ?_
    repeat (go_big_quiet_step ((first | (go_at_call 69; with_reducible refine Calls.regrown_of (unhide HM1' _ _)) | (go_at_call 69; with_reducible refine Calls.regrown_of (unhide HM2' _ _)))))
    refine wpQuiet_nil ?_
    intro w9 hw9
    have hb9 : Below (w.alloc (.cells #[.int .i64 hs, .int .i64 ht, .bool hsh, .bool hf] 27)).heap.size (w.alloc (.cells #[.int .i64 hs, .int .i64 ht, .bool hsh, .bool hf] 27)) w9 := by obtain ⟨p, e⟩ := hw9; rw [e]; exact below_regrown _ _ _
    have HB9 := hide ((unhide HB0).trans (hb9.mono (unhide HB0).size))
    have HX9 := hide ((unhide HX0).kept hb9)
    have HY9 := hide ((unhide HY0).kept hb9)
    clear hw9 hb9 p0 p1 p2 q0 q1 q2 q3
    have HO9 := hide ((unhide HOW).kept (unhide HB9))
    obtain ⟨q0, q1, q2⟩ := (unhide HX9).three
    obtain ⟨r0, r1, r2, r3⟩ := (unhide HY9).four
    have z9 := (unhide HB9).size
    go_wp2_with fail
    go_region_law ((go_simp; go_at_call 72; refine (unhide HPIW w9.drew (World.ownsRow.drew (unhide HO9).waits) (by show base ≤ w9.heap.size; omega)).mono ?_; rintro e w8 ⟨r, rfl, ho8, hg8, ha8⟩; have HX8 := hide (((unhide HX9).drewK).far hg8 (by intro e; exact hgb e.symm)); have q0' := (unhide HX8).cell 0; have q1' := (unhide HX8).cell 1; have q2' := (unhide HX8).cell 2; have f0' := (unhide HX8).free 0; have f1' := (unhide HX8).free 1; have f2' := (unhide HX8).free 2; obtain ⟨ra, rc, rfl, -⟩ := ownsRow_slice ho8; simp at q0' q1' q2'))
    all_goals
      have HO8 := hide ho8
      have HG8 := hide hg8
      have HA8 := hide ha8
      clear ho8 hg8 ha8
    all_goals go_wp2_with fail
    all_goals go_ret
    all_goals
      have hF : Fr w w8 (fun k => k = g ∨ (Value.slice ah H.length ch).ownBlock = some k ∨ (Value.slice aw W.length cw).ownBlock = some k) := (fr_below (unhide HB9) _).trans (fr_drewS (fr_gr (unhide HG8))) (fun i _ e => .inr (.inr e))
      have hoth : w8.ownsRow base 27 4 (.slice ah H.length ch) H.length (H.flatMap hdE) := (World.ownsRow.drew (unhide HO9).held).kept (unhide HG8) ((unhide HO9).ne)
      have hnew : (Value.slice ra (putI W ⟨hs, ht, hsh, hf⟩).length rc).ownBlock = none ∨ (Value.slice ra (putI W ⟨hs, ht, hsh, hf⟩).length rc).ownBlock ≠ (Value.slice ah H.length ch).ownBlock := by
        rcases unhide HA8 with e | ⟨q, e, hq⟩
        · rw [e]; exact ne_sym (unhide HO9).ne
        · rw [e]; right; intro e2
          have := ((unhide HO9).held.lt q e2.symm).2
          simp at hq; omega
      have ng1 : (Value.slice ah H.length ch).ownBlock ≠ some g := hga
      have ng2 : (Value.slice ra (putI W ⟨hs, ht, hsh, hf⟩).length rc).ownBlock ≠ some g := by
        rcases unhide HA8 with e | ⟨q, e, hq⟩
        · rw [e]; exact hgb
        · rw [e]; intro e2; have := (unhide HX9).lt; simp at e2 hq; omega
      rw [unhide HLI, unhide HCI, if_pos (by rw [unhide HT1, unhide HT2]; rfl), unhide HT1, unhide HT2]
      refine ⟨_, _, rfl, by simpa using (unhide HX8).setC 2 (.slice ra (putI W ⟨hs, ht, hsh, hf⟩).length rc), ?_, hF.set g 2 _ (fun _ => .inl rfl), .inl rfl, (unhide HA8).elim .inl (fun ⟨q, e, hq⟩ => .inr ⟨q, e, by simp at hq; omega⟩)⟩
      exact ⟨ownsRow_setCell_other hoth ng1, ownsRow_setCell_other (unhide HO8) ng2, ne_sym hnew⟩
  case false =>
    rw [t2] at HM2'
    have HT2 := hide t2
    clear t2
    go_enter Try.func55, Try.ntmps55
    go_wp2_with fail
    refine wp_region_quiet_below (by kernel_rfl) (by kernel_rfl) ?_
    repeat (go_big_quiet_step ((first | (go_at_call 69; with_reducible refine Calls.regrown_of (unhide HM1' _ _)) | (go_at_call 69; with_reducible refine Calls.regrown_of (unhide HM2' _ _)))))
    refine wpQuiet_nil ?_
    intro w9 hw9
    have hb9 : Below (w.alloc (.cells #[.int .i64 hs, .int .i64 ht, .bool hsh, .bool hf] 27)).heap.size (w.alloc (.cells #[.int .i64 hs, .int .i64 ht, .bool hsh, .bool hf] 27)) w9 := by obtain ⟨p, e⟩ := hw9; rw [e]; exact below_regrown _ _ _
    have HB9 := hide ((unhide HB0).trans (hb9.mono (unhide HB0).size))
    have HX9 := hide ((unhide HX0).kept hb9)
    have HY9 := hide ((unhide HY0).kept hb9)
    clear hw9 hb9 p0 p1 p2 q0 q1 q2 q3
    have HO9 := hide ((unhide HOW).kept (unhide HB9))
    obtain ⟨q0, q1, q2⟩ := (unhide HX9).three
    obtain ⟨r0, r1, r2, r3⟩ := (unhide HY9).four
    have z9 := (unhide HB9).size
    go_wp2_with fail
    go_region_law ((go_simp; go_at_call 72; refine (unhide HPIH w9.drew (World.ownsRow.drew (unhide HO9).held) (by show base ≤ w9.heap.size; omega)).mono ?_; rintro e w8 ⟨r, rfl, ho8, hg8, ha8⟩; have HX8 := hide (((unhide HX9).drewK).far hg8 (by intro e; exact hga e.symm)); have q0' := (unhide HX8).cell 0; have q1' := (unhide HX8).cell 1; have q2' := (unhide HX8).cell 2; have f0' := (unhide HX8).free 0; have f1' := (unhide HX8).free 1; have f2' := (unhide HX8).free 2; obtain ⟨ra, rc, rfl, -⟩ := ownsRow_slice ho8; simp at q0' q1' q2'))
    all_goals
      have HO8 := hide ho8
      have HG8 := hide hg8
      have HA8 := hide ha8
      clear ho8 hg8 ha8
    all_goals go_wp2_with fail
    all_goals go_ret
    all_goals
      have hF : Fr w w8 (fun k => k = g ∨ (Value.slice ah H.length ch).ownBlock = some k ∨ (Value.slice aw W.length cw).ownBlock = some k) := (fr_below (unhide HB9) _).trans (fr_drewS (fr_gr (unhide HG8))) (fun i _ e => .inr (.inl e))
      have hoth : w8.ownsRow base 27 4 (.slice aw W.length cw) W.length (W.flatMap hdE) := (World.ownsRow.drew (unhide HO9).waits).kept (unhide HG8) (ne_sym (unhide HO9).ne)
      have hnew : (Value.slice ra (putI H ⟨hs, ht, hsh, hf⟩).length rc).ownBlock = none ∨ (Value.slice ra (putI H ⟨hs, ht, hsh, hf⟩).length rc).ownBlock ≠ (Value.slice aw W.length cw).ownBlock := by
        rcases unhide HA8 with e | ⟨q, e, hq⟩
        · rw [e]; exact (unhide HO9).ne
        · rw [e]; right; intro e2
          have := ((unhide HO9).waits.lt q e2.symm).2
          simp at hq; omega
      have ng1 : (Value.slice aw W.length cw).ownBlock ≠ some g := hgb
      have ng2 : (Value.slice ra (putI H ⟨hs, ht, hsh, hf⟩).length rc).ownBlock ≠ some g := by
        rcases unhide HA8 with e | ⟨q, e, hq⟩
        · rw [e]; exact hga
        · rw [e]; intro e2; have := (unhide HX9).lt; simp at e2 hq; omega
      rw [unhide HLI, unhide HCI, if_neg (by rw [unhide HT1, unhide HT2]; simp), unhide HT1, unhide HT2]
      refine ⟨_, _, rfl, by simpa using (unhide HX8).setC 1 (.slice ra (putI H ⟨hs, ht, hsh, hf⟩).length rc), ?_, hF.set g 1 _ (fun _ => .inl rfl), (unhide HA8).elim .inl (fun ⟨q, e, hq⟩ => .inr ⟨q, e, by simp at hq; omega⟩), .inl rfl⟩
      exact ⟨ownsRow_setCell_other (unhide HO8) ng2, ownsRow_setCell_other hoth ng1, hnew⟩

end Go.Proofs.Ytoojnhodjkpecaa
