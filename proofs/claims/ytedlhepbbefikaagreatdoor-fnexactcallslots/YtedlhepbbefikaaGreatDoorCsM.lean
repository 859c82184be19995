/- The slots of a call: plain mathematics. -/
import Derived.Test.YtedlhepbbefikaaGreatDoorMapM
import Derived.Lib.SlicesCompact
namespace Go.Proofs.YtedlhepbbefikaaGreatDoor
open Go.RowKit

def r8 : List Int := [0, 1, 2, 3, 4, 5, 6, 7]

theorem mem_compact {zs : List Int} {x : Int} : x ∈ Lib.compact zs ↔ x ∈ zs := by
  unfold Lib.compact Lib.compactUpTo
  constructor
  · intro h
    obtain ⟨j, hj, rfl⟩ := List.mem_map.1 h
    have hj' := List.mem_range.1 (List.mem_filter.1 hj).1
    simp only [List.getElem!_toArray]
    rw [getElem!_pos zs j hj']
    exact List.getElem_mem _
  · intro h
    have key : ∀ n j (hj : j < zs.length), j ≤ n → zs[j] = x → x ∈ ((List.range zs.length).filter (Lib.keeps zs.toArray)).map (zs.toArray[·]!) := by
      intro n
      induction n with
      | zero =>
        intro j hj hn e
        obtain rfl : j = 0 := by omega
        exact List.mem_map.2 ⟨0, List.mem_filter.2 ⟨List.mem_range.2 hj, by simp [Lib.keeps]⟩, by simp only [List.getElem!_toArray]; rw [getElem!_pos zs 0 hj]; exact e⟩
      | succ n ih =>
        intro j hj hn e
        by_cases hk : Lib.keeps zs.toArray j = true
        · exact List.mem_map.2 ⟨j, List.mem_filter.2 ⟨List.mem_range.2 hj, hk⟩, by simp only [List.getElem!_toArray]; rw [getElem!_pos zs j hj]; exact e⟩
        · simp only [Lib.keeps, decide_eq_true_eq, not_or, ne_eq, Decidable.not_not, List.getElem!_toArray] at hk
          have hp : j - 1 < zs.length := by omega
          rw [getElem!_pos zs j hj, getElem!_pos zs (j - 1) hp] at hk
          exact ih (j - 1) hp (by omega) (hk.2 ▸ e)
    obtain ⟨j, hj, e⟩ := List.getElem_of_mem h
    exact key j j hj (Nat.le_refl _) e

theorem compact_asc {zs : List Int} (h : zs.Pairwise (· ≤ ·)) : (Lib.compact zs).Pairwise (· < ·) := by
  unfold Lib.compact Lib.compactUpTo
  rw [List.pairwise_map]
  have hr : ((List.range zs.length).filter (Lib.keeps zs.toArray)).Pairwise (· < ·) := (List.pairwise_lt_range).filter _
  refine hr.imp_of_mem ?_
  intro i j hi hj hij
  have hi' := List.mem_range.1 (List.mem_filter.1 hi).1
  have hj' := List.mem_range.1 (List.mem_filter.1 hj).1
  have hk := (List.mem_filter.1 hj).2
  simp only [Lib.keeps, decide_eq_true_eq, List.getElem!_toArray] at hk
  simp only [List.getElem!_toArray]
  have hp : j - 1 < zs.length := by omega
  rw [getElem!_pos zs j hj', getElem!_pos zs (j - 1) hp] at hk
  rw [getElem!_pos zs i hi', getElem!_pos zs j hj']
  have hg := List.pairwise_iff_getElem.1 h
  have h1 : zs[j - 1] ≤ zs[j] := hg (j - 1) j hp hj' (by omega)
  have h2 : zs[i] ≤ zs[j - 1] := by
    by_cases e : i = j - 1
    · subst e; exact Int.le_refl _
    · exact hg i (j - 1) hi' hp (by omega)
  rcases hk with hk | hk
  · omega
  · omega

theorem asc_ext : ∀ (a b : List Int), a.Pairwise (· < ·) → b.Pairwise (· < ·) → (∀ x, x ∈ a ↔ x ∈ b) → a = b
  | [], [], _, _, _ => rfl
  | [], y :: b, _, _, h => absurd ((h y).2 (by simp)) (by simp)
  | x :: a, [], _, _, h => absurd ((h x).1 (by simp)) (by simp)
  | x :: a, y :: b, ha, hb, h => by
    rw [List.pairwise_cons] at ha hb
    have e : x = y := by
      have h1 := (h x).1 (by simp)
      have h2 := (h y).2 (by simp)
      rcases List.mem_cons.1 h1 with h1 | h1
      · exact h1
      · rcases List.mem_cons.1 h2 with h2 | h2
        · exact h2.symm
        · have := ha.1 _ h2; have := hb.1 _ h1; omega
    subst e
    rw [asc_ext a b ha.2 hb.2 fun z => ⟨fun hz => ?_, fun hz => ?_⟩]
    · have := ha.1 _ hz
      rcases List.mem_cons.1 ((h z).1 (by simp [hz])) with r | r
      · omega
      · exact r
    · have := hb.1 _ hz
      rcases List.mem_cons.1 ((h z).2 (by simp [hz])) with r | r
      · omega
      · exact r

theorem sort_asc (L : List Int) : (L.mergeSort fun x y => decide (x ≤ y)).Pairwise (· ≤ ·) := by
  have := List.pairwise_mergeSort (le := fun x y : Int => decide (x ≤ y)) (fun a b c => by simpa using Int.le_trans) (fun a b => by simpa using Int.le_total a b) L
  simpa using this

/-- Which of the eight slots are among L. -/
def slotsL (L : List Int) : List Int := r8.filter fun s => decide (s ∈ L)

theorem r8_mem {x : Int} : x ∈ r8 ↔ 0 ≤ x ∧ x ≤ 7 := by simp only [r8, List.mem_cons, List.not_mem_nil, or_false]; omega
theorem r8_asc : r8.Pairwise (· < ·) := by decide
theorem slotsL_asc (L : List Int) : (slotsL L).Pairwise (· < ·) := r8_asc.filter _
theorem mem_slotsL {L : List Int} {x : Int} : x ∈ slotsL L ↔ (0 ≤ x ∧ x ≤ 7) ∧ x ∈ L := by simp [slotsL, r8_mem]

/-- Sorted, and each once: the slots that are among them. -/
theorem compact_sort (L : List Int) (h : ∀ x ∈ L, 0 ≤ x ∧ x ≤ 7) : Lib.compact (L.mergeSort fun x y => decide (x ≤ y)) = slotsL L := by
  refine asc_ext _ _ (compact_asc (sort_asc L)) (slotsL_asc L) fun x => ?_
  rw [mem_compact, List.mem_mergeSort, mem_slotsL]
  exact ⟨fun hx => ⟨h x hx, hx⟩, fun hx => hx.2⟩

theorem slotOf_range {k : Int} (h : keyB k = true) : 0 ≤ slotOf k ∧ slotOf k ≤ 7 := by
  have := keyB_bounds h
  unfold slotOf; rw [if_pos h]; omega

/-- A slot is touched by a move of slot t (if b), or by one of the keys. -/
def tb (b : Bool) (t : Int) (D : List St) (s : Int) : Bool := (b && decide (t = s)) || D.any fun x => decide (slotOf x.key = s)

theorem tb_deal (t : Int) (D : List St) : (r8.filter (tb false t D)) = slotsL (D.map fun x => slotOf x.key) := by
  unfold slotsL
  congr 1
  funext s
  simp only [tb, Bool.false_and, Bool.false_or]
  rw [Bool.eq_iff_iff]
  simp
theorem tb_move (t : Int) (h : slB t = true) : (r8.filter (tb true t [])) = [t] := by
  have := slB_bounds h
  have e : t = 0 ∨ t = 1 ∨ t = 2 ∨ t = 3 ∨ t = 4 ∨ t = 5 ∨ t = 6 ∨ t = 7 := by omega
  rcases e with rfl | rfl | rfl | rfl | rfl | rfl | rfl | rfl <;> decide

/-- The first n of the eight slots, those that are touched. -/
def tbs (b : Bool) (t : Int) (D : List St) (n : Nat) : List Int := (r8.take n).filter (tb b t D)
theorem r8_at (n : Nat) (h : n < 8) : r8.take (n + 1) = r8.take n ++ [(n : Int)] := by
  rcases (by omega : n = 0 ∨ n = 1 ∨ n = 2 ∨ n = 3 ∨ n = 4 ∨ n = 5 ∨ n = 6 ∨ n = 7) with rfl | rfl | rfl | rfl | rfl | rfl | rfl | rfl <;> rfl
theorem tbs_succ (b : Bool) (t : Int) (D : List St) (n : Nat) (h : n < 8) : tbs b t D (n + 1) = tbs b t D n ++ (if tb b t D n then [(n : Int)] else []) := by
  unfold tbs; rw [r8_at n h, List.filter_append]
  congr 1
  cases hh : tb b t D n <;> simp [hh]
theorem tbs_len (b : Bool) (t : Int) (D : List St) (n : Nat) : (tbs b t D n).length ≤ 8 := by
  unfold tbs; refine Nat.le_trans (List.length_filter_le _ _) ?_; rw [List.length_take]; simp [r8]; omega
theorem tbs_all (b : Bool) (t : Int) (D : List St) : tbs b t D 8 = r8.filter (tb b t D) := rfl

end Go.Proofs.YtedlhepbbefikaaGreatDoor
