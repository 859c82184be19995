/- Words as bytes: the bounds of a word that is ok. -/
import Derived.Test.YtfankbnlgmfdjaaPkM
namespace Go.Proofs.Ytfankbnlgmfdjaa
open Go.RowKit

abbrev Bd (x : Int) : Prop := -100000000 ≤ x ∧ x ≤ 100000000
theorem inB_iff {x a b : Int} : inB x a b = true ↔ a ≤ x ∧ x ≤ b := by simp [inB]

theorem slots_up {xs : List Int} (h : slotsB xs = true) : ∀ i, i < xs.length → (i : Int) ≤ xs.getD i 0 ∧ xs.getD i 0 ≤ 7
  | 0, hi => by
    have := List.all_eq_true.1 h 0 (List.mem_range.2 hi)
    simp only [slAt, Bool.and_eq_true, inB_iff] at this
    omega
  | i + 1, hi => by
    have h1 := List.all_eq_true.1 h (i + 1) (List.mem_range.2 hi)
    have h2 := slots_up h i (by omega)
    simp only [slAt, Bool.and_eq_true, inB_iff, Nat.add_sub_cancel, Bool.or_eq_true, decide_eq_true_eq] at h1
    omega
theorem slots_len {xs : List Int} (h : slotsB xs = true) : xs.length ≤ 8 ∧ ∀ x ∈ xs, Bd x := by
  refine ⟨?_, fun x hx => ?_⟩
  · rcases Nat.eq_zero_or_pos xs.length with h0 | h0
    · omega
    · have := slots_up h (xs.length - 1) (by omega); omega
  · obtain ⟨i, hi, rfl⟩ := List.getElem_of_mem hx
    have := slots_up h i hi
    have e : xs.getD i 0 = xs[i] := by simp [List.getD, hi]
    rw [e] at this
    unfold Bd; omega
theorem vals_len {xs : List Int} (h : valsB xs = true) : xs.length ≤ 6 ∧ ∀ x ∈ xs, Bd x := by
  simp only [valsB, Bool.and_eq_true, decide_eq_true_eq] at h
  refine ⟨h.1, fun x hx => ?_⟩
  have := List.all_eq_true.1 h.2 x hx
  simp only [valB, inB_iff] at this
  unfold Bd; omega
theorem prs_len {ps : List Pr} (h : inForm ps = true) : ps.length ≤ 32 ∧ ∀ p ∈ ps, Bd p.key ∧ Bd p.val := by
  simp only [inForm, Bool.and_eq_true, decide_eq_true_eq] at h
  refine ⟨h.1, fun p hp => ?_⟩
  obtain ⟨i, hi, rfl⟩ := List.getElem_of_mem hp
  have := List.all_eq_true.1 h.2 i (List.mem_range.2 hi)
  have e : ps.getD i Pr.z = ps[i] := by simp [List.getD, hi]
  simp only [prAt, Bool.and_eq_true, valB, inB_iff, e] at this
  unfold Bd; omega

structure WdBd (W : Wd) : Prop where
  head : ∀ x ∈ headL W, Bd x
  slots : W.slots.length ≤ 8
  slotsB : ∀ x ∈ W.slots, Bd x
  vals : W.vals.length ≤ 6
  valsB : ∀ x ∈ W.vals, Bd x
  prs : W.prs.length ≤ 32
  prsB : ∀ p ∈ W.prs, Bd p.key ∧ Bd p.val
  text : W.text.size ≤ 80

theorem place_bd {n : Int} (h : placeB n = true) : Bd n := by
  simp only [placeB, hsB, Bool.or_eq_true, inB_iff, beq_iff_eq] at h
  unfold Bd; omega
theorem num_bd {n : Int} (h : numB n = true) : Bd n := by
  simp only [numB, inB_iff] at h
  unfold Bd; omega
theorem word_bd {W : Wd} (h : wordB W = true) : WdBd W := by
  simp only [wordB, callB, Bool.and_eq_true, decide_eq_true_eq] at h
  obtain ⟨h1, h2, h3, h4, h5, h6, h7, h8, h9, h10, h11, h12, h13, h14, h15, h16⟩ := h
  obtain ⟨s1, s2⟩ := slots_len h7
  obtain ⟨v1, v2⟩ := vals_len h10
  obtain ⟨p1, p2⟩ := prs_len h8
  refine ⟨fun x hx => ?_, s1, s2, v1, v2, p1, p2, h16⟩
  simp only [inB_iff] at h1 h6 h9
  simp only [headL, List.mem_cons, List.not_mem_nil, or_false] at hx
  rcases hx with rfl | rfl | rfl | rfl | rfl | rfl | rfl | rfl | rfl | rfl | rfl | rfl | rfl | rfl
  · unfold Bd; omega
  · exact place_bd h2
  · exact place_bd h3
  · exact num_bd h4
  · exact num_bd h5
  · unfold Bd; omega
  · unfold Bd yesN; split <;> omega
  · unfold Bd; omega
  · exact num_bd h11
  · exact num_bd h12
  · exact num_bd h13
  · exact num_bd h14
  · exact num_bd h15
  · unfold Bd; omega

theorem prBd {ps : List Pr} (h : ∀ p ∈ ps, Bd p.key ∧ Bd p.val) : ∀ x ∈ prL ps, Bd x := by
  intro x hx
  simp only [prL, List.mem_flatMap, List.mem_cons, List.not_mem_nil, or_false] at hx
  obtain ⟨p, hp, rfl | rfl⟩ := hx
  · exact (h p hp).1
  · exact (h p hp).2

theorem InsAt.lt {w : World} {u : Value} {xs : List Int} (h : InsAt w u xs) (hx : xs ≠ []) : ∀ q, u.ownBlock = some q → q < w.heap.size := by
  obtain ⟨a, cap, rfl, h1, h2, h3⟩ := h
  rcases h3 with h3 | ⟨b, off, rfl, hc⟩
  · exact absurd h3 hx
  · intro q e
    simp [Value.ownBlock] at e
    subst e
    exact lt_of_cell (hc 0 (by rcases xs with _ | _ <;> simp_all))

end Go.Proofs.Ytfankbnlgmfdjaa
