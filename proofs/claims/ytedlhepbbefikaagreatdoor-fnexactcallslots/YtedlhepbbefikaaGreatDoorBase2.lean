/- More plain notions: pairs that are stored, rows that a call owns, and what stays where one row alone is written. -/
import Derived.Test.YtedlhepbbefikaaGreatDoorBase
namespace Go.Proofs.YtedlhepbbefikaaGreatDoor
open Go.RowKit

/-- One pair more is stored behind the first k. -/
theorem PrCells.push {w : World} {b m k : Nat} {ps : List Pr} (h : PrCells w b 0 k ps) (hr : Room w b m) (hk : k * 2 + 2 ≤ m) {x : Pr} (hx : ps.getD k Pr.z = x) :
    PrCells ((w.setCell ⟨b, k * 2, none⟩ (.int .i64 x.key)).setCell ⟨b, k * 2 + 1, none⟩ (.int .i64 x.val)) b 0 (k + 1) ps := by
  intro i hi
  by_cases e : i = k
  · subst e
    subst hx
    simp only [Nat.zero_add]
    obtain ⟨u0, h0⟩ := (hr (i * 2) (by omega)).1
    obtain ⟨u1, h1⟩ := ((hr.set ⟨b, i * 2, none⟩ (.int .i64 (ps.getD i Pr.z).key)) (i * 2 + 1) (by omega)).1
    refine ⟨?_, World.cell?_setCell_same _ _ _ h1⟩
    rw [cell_set_far (by omega)]; exact World.cell?_setCell_same _ _ _ h0
  · obtain ⟨h0, h1⟩ := h i (by omega)
    refine ⟨?_, ?_⟩
    all_goals (rw [cell_set_far (by omega), cell_set_far (by omega)]; assumption)

/-- What lies in another block than the one row that is written stays. -/
theorem cell_far {w w' : World} {row : Option Nat} (hg : w.grownBy w' row) {b o : Nat} {v : Value} (hne : some b ≠ row) (h : w.cell? ⟨b, o, none⟩ = some v) : w'.cell? ⟨b, o, none⟩ = some v := by
  rw [hg.cell_far ⟨b, o, none⟩ (lt_of_cell h) hne]; exact h

theorem PrsAt.far {w w' : World} {row : Option Nat} {v : Value} {ps : List Pr} (h : PrsAt w v ps) (hg : w.grownBy w' row) (hne : v.ownBlock = none ∨ v.ownBlock ≠ row) : PrsAt w' v ps := by
  obtain ⟨a, cap, rfl, h1, h2, h3⟩ := h
  refine ⟨a, cap, rfl, h1, h2, ?_⟩
  rcases h3 with h3 | ⟨b, off, rfl, hc⟩
  · exact .inl h3
  · refine .inr ⟨b, off, rfl, fun i hi => ?_⟩
    have hne' : some b ≠ row := by
      rcases hne with hne | hne
      · simp [Value.ownBlock] at hne
      · exact hne
    exact ⟨cell_far hg hne' (hc i hi).1, cell_far hg hne' (hc i hi).2⟩

theorem StsAt.far {w w' : World} {row : Option Nat} {v : Value} {ss : List St} (h : StsAt w v ss) (hg : w.grownBy w' row) (hne : v.ownBlock = none ∨ v.ownBlock ≠ row) : StsAt w' v ss := by
  obtain ⟨a, cap, rfl, h1, h2, h3⟩ := h
  refine ⟨a, cap, rfl, h1, h2, ?_⟩
  rcases h3 with h3 | ⟨b, off, rfl, hc⟩
  · exact .inl h3
  · refine .inr ⟨b, off, rfl, fun i hi => ?_⟩
    have hne' : some b ≠ row := by
      rcases hne with hne | hne
      · simp [Value.ownBlock] at hne
      · exact hne
    exact ⟨cell_far hg hne' (hc i hi).1, cell_far hg hne' (hc i hi).2.1, cell_far hg hne' (hc i hi).2.2⟩

theorem Room.far {w w' : World} {row : Option Nat} {b m : Nat} (h : Room w b m) (hg : w.grownBy w' row) (hne : some b ≠ row) : Room w' b m := fun j hj => by
  obtain ⟨⟨u, hu⟩, hf⟩ := h j hj
  exact ⟨⟨u, cell_far hg hne hu⟩, by rw [hg.frozen_far ⟨b, j, none⟩ (lt_of_cell hu) hne]; exact hf⟩

/-- Behind writes to one row of the call's own, what was there before stays. -/
theorem Below.grownBy {B : Nat} {a w w' : World} {row : Option Nat} (h : Below B a w) (hg : w.grownBy w' row) (hB : B ≤ w.heap.size) (hr : ∀ k, row = some k → B ≤ k) : Below B a w' := h.grown hg hB hr

theorem grownBy_refl (w : World) (row : Option Nat) : w.grownBy w row := ⟨rfl, rfl, rfl, Nat.le_refl _, fun _ _ _ => rfl⟩

theorem grownBy_set {w w' : World} {b : Nat} (h : w.grownBy w' (some b)) (j : Nat) (u : Value) : w.grownBy (w'.setCell ⟨b, j, none⟩ u) (some b) :=
  ⟨h.os, h.tape, h.output, by simpa [World.setCell] using h.size, fun k hk hne => by
    rw [Below.heap_setCell _ _ _ _ (by intro e; apply hne; rw [e])]; exact h.block k hk hne⟩

theorem grownBy_trans {a b c : World} {row : Option Nat} (h : a.grownBy b row) (k : b.grownBy c row) : a.grownBy c row :=
  ⟨k.os.trans h.os, k.tape.trans h.tape, k.output.trans h.output, Nat.le_trans h.size k.size, fun i hi hne => (k.block i (Nat.lt_of_lt_of_le hi h.size) hne).trans (h.block i hi hne)⟩

/-- The cells of pairs, one behind the other. -/
def prFlat (ps : List Pr) : List Value := ps.flatMap fun p => [.int .i64 p.key, .int .i64 p.val]

theorem prFlat_append (a b : List Pr) : prFlat (a ++ b) = prFlat a ++ prFlat b := by simp [prFlat]

theorem prFlat_length (ps : List Pr) : (prFlat ps).length = ps.length * 2 := by
  induction ps with
  | nil => rfl
  | cons p r ih => simp only [prFlat, List.flatMap_cons, List.length_append, List.length_cons, List.length_nil] at ih ⊢; omega

theorem prFlat_at (ps : List Pr) (i : Nat) (h : i < ps.length) : (prFlat ps)[i * 2]? = some (.int .i64 (ps.getD i Pr.z).key) ∧ (prFlat ps)[i * 2 + 1]? = some (.int .i64 (ps.getD i Pr.z).val) := by
  induction ps generalizing i with
  | nil => simp at h
  | cons p r ih =>
    cases i with
    | zero => simp [prFlat]
    | succ i =>
      obtain ⟨h0, h1⟩ := ih i (by simpa using h)
      have e0 : (i + 1) * 2 = i * 2 + 1 + 1 := by omega
      have e1 : (i + 1) * 2 + 1 = i * 2 + 1 + 1 + 1 := by omega
      rw [e1, e0]
      simp only [prFlat, List.flatMap_cons, List.cons_append, List.nil_append, List.getElem?_cons_succ, List.getD_cons_succ]
      exact ⟨h0, h1⟩

/-- A row of pairs that the call owns reads as these pairs, and may be written. -/
theorem owned_prs {w : World} {base e : Nat} {v : Value} {ps : List Pr} (h : w.ownsRow base e 2 v ps.length (prFlat ps)) :
    PrsAt w v ps ∧ ((v = .slice none 0 0 ∧ ps = []) ∨ ∃ g cap, v = .slice (some ⟨g, 0, none⟩) ps.length cap ∧ base ≤ g ∧ g < w.heap.size ∧ Room w g (ps.length * 2)) := by
  obtain ⟨h1, h2⟩ := h
  rcases h2 with ⟨rfl, h0⟩ | ⟨g, cap, cur, rfl, hg, hh, hc1, hc2, hs, ht⟩
  · have : ps = [] := List.eq_nil_of_length_eq_zero h0
    subst this
    exact ⟨⟨none, 0, rfl, by simp, by simp [maxLen], .inl rfl⟩, .inl ⟨rfl, rfl⟩⟩
  · have hlt : g < w.heap.size := by
      rcases Nat.lt_or_ge g w.heap.size with hlt | hge
      · exact hlt
      · rw [Array.getElem?_eq_none hge] at hh; cases hh
    have hcell : ∀ j, w.cell? ⟨g, j, none⟩ = cur[j]? := fun j => cell_of_row w g j cur e (0, 0) hh
    have hcur : ∀ j, j < ps.length * 2 → cur[j]? = (prFlat ps)[j]? := fun j hj => by
      rw [← ht, List.getElem?_take_of_lt hj]; simp
    refine ⟨⟨_, cap, rfl, hc1, hc2, .inr ⟨g, 0, rfl, fun i hi => ?_⟩⟩, .inr ⟨g, cap, rfl, hg, hlt, fun j hj => ⟨?_, ?_⟩⟩⟩
    · obtain ⟨a0, a1⟩ := prFlat_at ps i hi
      simp only [Nat.zero_add]
      exact ⟨by rw [hcell, hcur _ (by omega), a0], by rw [hcell, hcur _ (by omega), a1]⟩
    · have : j < cur.size := by rw [hs]; exact Nat.lt_of_lt_of_le hj (Nat.mul_le_mul_right 2 hc1)
      exact ⟨cur[j], by rw [hcell]; simp [this]⟩
    · simp [World.frozen?, hh]

theorem ownsRow_base {w : World} {base base' e s : Nat} {v : Value} {n : Nat} {xs : List Value} (h : w.ownsRow base e s v n xs) (hb : base' ≤ base) : w.ownsRow base' e s v n xs := by
  obtain ⟨h1, h2⟩ := h
  refine ⟨h1, ?_⟩
  rcases h2 with h2 | ⟨g, cap, cur, hv, hg, r⟩
  · exact .inl h2
  · exact .inr ⟨g, cap, cur, hv, by omega, r⟩

theorem grownBy_drew {w w' : World} {row : Option Nat} (h : w.grownBy w' row) : w.grownBy w'.drew row := ⟨h.os, h.tape, h.output, h.size, h.block⟩
theorem grownBy_alloc {w w' : World} {row : Option Nat} (h : w.grownBy w' row) (o : Obj) : w.grownBy (w'.alloc o) row := grownBy_trans h (World.grownBy_alloc w' o row)

end Go.Proofs.YtedlhepbbefikaaGreatDoor
