/- Maps: the specification's copy, and a move. -/
import Derived.Test.YtapihjjklinbdaaMapS
import Derived.Test.YtapihjjklinbdaaResK
namespace Go.Proofs.Ytapihjjklinbdaa
open Go.RowKit

theorem ownIns_at {w : World} {b off n : Nat} {xs : List Int} (h : InCells w b off n xs) (hl : xs.length = n) : ∀ (j : Nat) (u : Value), (xs.map (Value.int .i64))[j]? = some u → w.cell? ((⟨b, off, none⟩ : Addr).add j) = some u := fun j u hu => by
  have hj : j < xs.length := by
    rcases Nat.lt_or_ge j xs.length with h1 | h1
    · exact h1
    · simp [List.getElem?_eq_none h1] at hu
  have e : (⟨b, off, none⟩ : Addr).add j = ⟨b, off + j, none⟩ := by unfold Addr.add; split <;> simp_all
  rw [e, h j (by omega), ← hu]
  simp [List.getD, hj]

set_option maxRecDepth 100000 in
set_option maxHeartbeats 2000000 in
theorem specCopy_any (v : Int) (u : Value) (xs : List Int) (w : World) (hu : InsAt w u xs) (h0 : 0 < xs.length) (hl : xs.length ≤ 1048576) :
    Calls Try.prog 72 #[.agg #[.int .i64 v, u]] w fun e w' => ∃ g cap, e = .returned (.agg #[.int .i64 v, .slice (some ⟨g, 0, none⟩) xs.length cap]) ∧ w'.ownsRow w.heap.size 3 1 (.slice (some ⟨g, 0, none⟩) xs.length cap) xs.length (xs.map (Value.int .i64)) ∧ Below w.heap.size w w' := by
  obtain ⟨a, cap, rfl, h1, h2, h3⟩ := hu
  obtain ⟨b, off, rfl, hc⟩ : ∃ b off, a = some ⟨b, off, none⟩ ∧ InCells w b off xs.length xs := by
    rcases h3 with h3 | h3
    · subst h3; simp at h0
    · exact h3
  clear h3
  generalize hN : xs.length = N at *
  have HN := hide hN
  clear hN
  unfold maxLen at h2
  obtain ⟨i0, hi, hz0, hz1, hz2⟩ := info_parts Try.infoI1
  have bA : Below w.heap.size w (((w.alloc (.cells #[.int .i64 v, .slice (some ⟨b, off, none⟩) N cap] 31)).alloc (.cells #[.int .i64 0, .slice none 0 0] 31)).alloc (.cells #[] 3)) := (((Below.refl _ _).alloc (Nat.le_refl _) _).alloc (by simp) _).alloc (by simp; omega) _
  have hoA : (((w.alloc (.cells #[.int .i64 v, .slice (some ⟨b, off, none⟩) N cap] 31)).alloc (.cells #[.int .i64 0, .slice none 0 0] 31)).alloc (.cells #[] 3)).ownsRow (w.heap.size + 2) 3 1 (.slice (some ⟨w.heap.size + 2, 0, none⟩) 0 0) 0 [] := by
    have := World.ownsRow_made ((w.alloc (.cells #[.int .i64 v, .slice (some ⟨b, off, none⟩) N cap] 31)).alloc (.cells #[.int .i64 0, .slice none 0 0] 31)) (e := 3) (size := 1) (base := w.heap.size + 2) #[] 0 (by simp) (by simp [maxLen]) (by simp)
    simpa using this
  have HO := hide hoA
  have HNW := hide (ownIns_at (hc.kept bA) (unhide HN))
  clear hoA hc
  go_enter Try.func72, Try.ntmps72
  go_wp2_with fail
  go_region_law ((refine step_append_lies _ (by rfl) (.tmp 5) (.tmp 7) 22 (by rfl) (w.heap.size + 2) 3 i0 (.int .i64 0) 1 8 Try.underlying22 hi hz0 hz1 hz2 rfl (by decide) (.slice (some ⟨w.heap.size + 2, 0, none⟩) 0 0) 0 [] (by rfl) (by exact unhide HO) ⟨b, off, none⟩ N cap (xs.map (Value.int .i64)) (by rfl) (by simp [unhide HN]) (by exact unhide HNW) (by simp [Value.oneCell']) (by omega) (by unfold maxLen; omega) (by omega) (by simp) (w.heap.size + 3) (by simp) ?_; intro g cp w1 hown hgrow hat hlt1; have HR : Hid (w1.heap[w.heap.size + 1]? = some (.cells #[.int .i64 0, .slice none 0 0] 31 (0, 0))) := (hgrow.block (w.heap.size + 1) (by simp) (by simp [Value.ownBlock])).trans ((heap_alloc_old _ _ (by simp)).trans (heap_alloc2_new _ _ _)); have HS : Hid (w1.heap[w.heap.size]? = some (.cells #[.int .i64 v, .slice (some ⟨b, off, none⟩) N cap] 31 (0, 0))) := (hgrow.block w.heap.size (by simp; omega) (by simp [Value.ownBlock])).trans ((heap_alloc_old _ _ (by simp; omega)).trans (heap_alloc2_old _ _ _)); have m0 := cell_of_row w1 _ 0 _ _ _ (unhide HS); have k0 := cell_of_row w1 _ 0 _ _ _ (unhide HR); have k1 := cell_of_row w1 _ 1 _ _ _ (unhide HR); have f0 := frozen_of_row w1 _ 0 _ _ (unhide HR); have f1 := frozen_of_row w1 _ 1 _ _ (unhide HR); simp at k0 k1 m0))
  all_goals (try go_wp2)
  all_goals
    refine bodyPost_ret (results_cell_row rfl _ _ (w.heap.size + 1) _ _ _ _ rfl (heap_setCell_same _ _ _ _ _ _ (heap_setCell_same _ _ _ _ _ _ (unhide HR))) Try.underlying31 rfl (by kernel_rfl)) rfl ?_
    have bw : Below w.heap.size w w1 := Below.grown (Below.drew bA) hgrow (by simp; omega) (fun q hq => by simp [Value.ownBlock] at hq; omega)
    refine ⟨g, cp, by simp, ?_, (bw.setCell (by simp) _).setCell (by simp) _⟩
    have hne : g ≠ w.heap.size + 1 := by
      rcases hat with h | h
      · simp [Value.ownBlock] at h; omega
      · omega
    rw [Nat.zero_add] at hown
    have o1 := ownsRow_setCell_other hown (g := w.heap.size + 1) (j := 0) (u := .int .i64 v) (by simp [Value.ownBlock]; omega)
    have o2 := ownsRow_setCell_other o1 (g := w.heap.size + 1) (j := 1) (u := .slice (some ⟨g, 0, none⟩) N cp) (by simp [Value.ownBlock]; omega)
    exact ownsRow_base o2 (by omega)

end Go.Proofs.Ytapihjjklinbdaa
