/- Rows of any kind in memory: a slice whose elements are written as a fixed number of cells each. -/
import Derived.Test.YtedlhepbbefikaaGreatDoorAppK
namespace Go.Proofs.YtedlhepbbefikaaGreatDoor
open Go.RowKit

section
variable {α : Type} (enc : α → List Value) (k : Nat)

/-- The slice value v lies in w and reads as xs, each written as enc writes it. -/
def RowAt (w : World) (v : Value) (xs : List α) : Prop :=
  ∃ a cap, v = .slice a xs.length cap ∧ xs.length ≤ cap ∧ cap ≤ maxLen ∧
    (xs = [] ∨ ∃ b off, a = some ⟨b, off, none⟩ ∧ ∀ j u, (xs.flatMap enc)[j]? = some u → w.cell? ⟨b, off + j, none⟩ = some u)
end

section
variable {α : Type} {enc : α → List Value} {k : Nat} {w w' : World} {v : Value} {xs : List α}

theorem flat_len (he : ∀ x, (enc x).length = k) (xs : List α) : (xs.flatMap enc).length = xs.length * k := by
  induction xs with
  | nil => simp
  | cons x r ih => rw [List.flatMap_cons, List.length_append, ih, he, List.length_cons, Nat.succ_mul]; omega

theorem flat_at (he : ∀ x, (enc x).length = k) (d : α) (xs : List α) (i f : Nat) (hi : i < xs.length) (hf : f < k) : (xs.flatMap enc)[i * k + f]? = (enc (xs.getD i d))[f]? := by
  induction xs generalizing i with
  | nil => simp at hi
  | cons x r ih =>
    rw [List.flatMap_cons]
    cases i with
    | zero => rw [Nat.zero_mul, Nat.zero_add, List.getElem?_append_left (by rw [he]; exact hf)]; simp
    | succ i =>
      rw [List.getElem?_append_right (by rw [he, Nat.succ_mul]; omega), he, show (i + 1) * k + f - k = i * k + f by rw [Nat.succ_mul]; omega]
      simpa using ih i (by simpa using hi)

theorem RowAt.shape (h : RowAt enc w v xs) : ∃ a cap, v = .slice a xs.length cap ∧ xs.length ≤ maxLen := by
  obtain ⟨a, cap, rfl, h1, h2, _⟩ := h; exact ⟨a, cap, rfl, by omega⟩

theorem RowAt.nil (w : World) : RowAt enc w (.slice none 0 0) [] := ⟨none, 0, rfl, by simp, by simp [maxLen], .inl rfl⟩

theorem RowAt.kept (h : RowAt enc w v xs) (hb : Below w.heap.size w w') : RowAt enc w' v xs := by
  obtain ⟨a, cap, rfl, h1, h2, h3⟩ := h
  refine ⟨a, cap, rfl, h1, h2, ?_⟩
  rcases h3 with h3 | ⟨b, off, rfl, hc⟩
  · exact .inl h3
  · exact .inr ⟨b, off, rfl, fun j u hj => cell_kept hb (hc j u hj)⟩

theorem RowAt.far {row : Option Nat} (h : RowAt enc w v xs) (hg : w.grownBy w' row) (hne : v.ownBlock = none ∨ v.ownBlock ≠ row) : RowAt enc w' v xs := by
  obtain ⟨a, cap, rfl, h1, h2, h3⟩ := h
  refine ⟨a, cap, rfl, h1, h2, ?_⟩
  rcases h3 with h3 | ⟨b, off, rfl, hc⟩
  · exact .inl h3
  · rcases hne with hne | hne
    · simp [Value.ownBlock] at hne
    · exact .inr ⟨b, off, rfl, fun j u hj => by
        have := hc j u hj
        rw [hg.cell_far ⟨b, off + j, none⟩ (lt_of_cell this) (by simpa [Value.ownBlock] using hne)]; exact this⟩

/-- A row of one's own reads so. -/
theorem RowAt.of_own {base e : Nat} (h : w.ownsRow base e k v xs.length (xs.flatMap enc)) : RowAt enc w v xs := by
  obtain ⟨h1, h2⟩ := h
  rcases h2 with ⟨rfl, h0⟩ | ⟨g, cap, cur, rfl, hg, hh, hc1, hc2, hs, ht⟩
  · have : xs = [] := List.eq_nil_of_length_eq_zero h0
    subst this; exact RowAt.nil w
  · refine ⟨_, cap, rfl, hc1, hc2, .inr ⟨g, 0, rfl, fun j u hj => ?_⟩⟩
    rw [Nat.zero_add, cell_of_row w g j cur e (0, 0) hh]
    have hjl : j < xs.length * k := by rw [← h1]; exact (List.getElem?_eq_some_iff.1 hj).1
    rw [← ht, List.getElem?_take_of_lt hjl] at hj
    simpa using hj

theorem RowAt.src {ad : Option Addr} {m c : Nat} (h : RowAt enc w (.slice ad m c) xs) : m = xs.length ∧ SrcAt w ad xs.length (xs.flatMap enc) := by
  obtain ⟨a, cap, he, h1, h2, h3⟩ := h
  simp at he
  obtain ⟨rfl, rfl, rfl⟩ := he
  refine ⟨rfl, ?_⟩
  rcases h3 with rfl | ⟨b, off, rfl, hc⟩
  · exact .inl ⟨rfl, rfl⟩
  · rcases Nat.eq_zero_or_pos xs.length with h0 | hp
    · left; exact ⟨h0, by rw [List.eq_nil_of_length_eq_zero h0]; rfl⟩
    · refine .inr ⟨hp, _, rfl, fun j u hj => ?_⟩
      have key := hc j u hj
      by_cases h0 : j = 0
      · subst h0; simpa [Addr.add] using key
      · simpa [Addr.add, h0] using key

/-- The cells of element i. -/
theorem RowAt.cellsAt (he : ∀ x, (enc x).length = k) (d : α) {b off m c : Nat} (h : RowAt enc w (.slice (some ⟨b, off, none⟩) m c) xs) {i : Nat} (hi : i < xs.length) {f : Nat} {u : Value} (hu : (enc (xs.getD i d))[f]? = some u) : w.cell? ⟨b, off + (i * k + f), none⟩ = some u := by
  obtain ⟨a, cap, ha, h1, h2, h3⟩ := h
  simp at ha
  rcases h3 with rfl | ⟨b', off', he', hc⟩
  · simp at hi
  · rw [← ha.1] at he'
    simp at he'
    obtain ⟨rfl, rfl⟩ := he'
    have hf : f < k := by rw [← he (xs.getD i d)]; exact (List.getElem?_eq_some_iff.1 hu).1
    exact hc _ _ ((flat_at he d xs i f hi hf).trans hu)

/-- A row with an element lies somewhere. -/
theorem RowAt.some_of {a : Option Addr} {m c : Nat} (h : RowAt enc w (.slice a m c) xs) (hi : 0 < xs.length) : ∃ b off, a = some ⟨b, off, none⟩ := by
  obtain ⟨a', cap, ha, h1, h2, h3⟩ := h
  simp at ha
  rcases h3 with rfl | ⟨b, off, he, _⟩
  · simp at hi
  · exact ⟨b, off, ha.1.trans he⟩
end

end Go.Proofs.YtedlhepbbefikaaGreatDoor
