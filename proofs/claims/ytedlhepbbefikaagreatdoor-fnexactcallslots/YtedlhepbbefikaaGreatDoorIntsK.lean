/- Slices of numbers: plain notions. Nothing of the program's text is named here. -/
import Derived.Test.YtedlhepbbefikaaGreatDoorBase2
import Derived.Deep.DrawnRows
namespace Go.Proofs.YtedlhepbbefikaaGreatDoor
open Go.RowKit

/-- In block b, from offset off on, lie the first n numbers of xs. -/
def InCells (w : World) (b off n : Nat) (xs : List Int) : Prop := ∀ i, i < n → w.cell? ⟨b, off + i, none⟩ = some (.int .i64 (xs.getD i 0))

/-- The slice value v lies in w and reads as the numbers xs. -/
def InsAt (w : World) (v : Value) (xs : List Int) : Prop :=
  ∃ a cap, v = .slice a xs.length cap ∧ xs.length ≤ cap ∧ cap ≤ maxLen ∧ (xs = [] ∨ ∃ b off, a = some ⟨b, off, none⟩ ∧ InCells w b off xs.length xs)

theorem InCells.kept {w w' : World} {b off n : Nat} {xs : List Int} (h : InCells w b off n xs) (hb : Below w.heap.size w w') : InCells w' b off n xs := fun i hi => cell_kept hb (h i hi)

theorem InsAt.kept {w w' : World} {v : Value} {xs : List Int} (h : InsAt w v xs) (hb : Below w.heap.size w w') : InsAt w' v xs := by
  obtain ⟨a, cap, hv, h1, h2, h3⟩ := h
  refine ⟨a, cap, hv, h1, h2, ?_⟩
  rcases h3 with h3 | ⟨b, off, ha, hc⟩
  · exact .inl h3
  · exact .inr ⟨b, off, ha, hc.kept hb⟩

theorem InsAt.far {w w' : World} {row : Option Nat} {v : Value} {xs : List Int} (h : InsAt w v xs) (hg : w.grownBy w' row) (hne : v.ownBlock = none ∨ v.ownBlock ≠ row) : InsAt w' v xs := by
  obtain ⟨a, cap, rfl, h1, h2, h3⟩ := h
  refine ⟨a, cap, rfl, h1, h2, ?_⟩
  rcases h3 with h3 | ⟨b, off, rfl, hc⟩
  · exact .inl h3
  · refine .inr ⟨b, off, rfl, fun i hi => ?_⟩
    have hne' : some b ≠ row := by
      rcases hne with hne | hne
      · simp [Value.ownBlock] at hne
      · exact hne
    exact cell_far hg hne' (hc i hi)

/-- A row of numbers that the call owns reads as these, and may be written. -/
theorem owned_ins {w : World} {base e : Nat} {v : Value} {xs : List Int} (h : w.ownsRow base e 1 v xs.length (xs.map (Value.int .i64))) :
    InsAt w v xs ∧ ((v = .slice none 0 0 ∧ xs = []) ∨ ∃ g cap, v = .slice (some ⟨g, 0, none⟩) xs.length cap ∧ base ≤ g ∧ g < w.heap.size ∧ Room w g xs.length) := by
  obtain ⟨h1, h2⟩ := h
  rcases h2 with ⟨rfl, h0⟩ | ⟨g, cap, cur, rfl, hg, hh, hc1, hc2, hs, ht⟩
  · have : xs = [] := List.eq_nil_of_length_eq_zero h0
    subst this
    exact ⟨⟨none, 0, rfl, by simp, by simp [maxLen], .inl rfl⟩, .inl ⟨rfl, rfl⟩⟩
  · have hlt : g < w.heap.size := by
      rcases Nat.lt_or_ge g w.heap.size with hlt | hge
      · exact hlt
      · rw [Array.getElem?_eq_none hge] at hh; cases hh
    have hcell : ∀ j, w.cell? ⟨g, j, none⟩ = cur[j]? := fun j => cell_of_row w g j cur e (0, 0) hh
    have hcur : ∀ j, j < xs.length → cur[j]? = (xs.map (Value.int .i64))[j]? := fun j hj => by
      rw [← ht, List.getElem?_take_of_lt (by omega)]; simp
    refine ⟨⟨_, cap, rfl, hc1, hc2, .inr ⟨g, 0, rfl, fun i hi => ?_⟩⟩, .inr ⟨g, cap, rfl, hg, hlt, fun j hj => ⟨?_, ?_⟩⟩⟩
    · rw [Nat.zero_add, hcell, hcur i hi]; simp [List.getD, hi]
    · have : j < cur.size := by omega
      exact ⟨cur[j], by rw [hcell]; simp [this]⟩
    · simp [World.frozen?, hh]

def eqIns (xs ys : List Int) : Bool := decide (xs = ys)
theorem eqIns_self (xs : List Int) : eqIns xs xs = true := by simp [eqIns]

def imarks (k : Int) (n : Nat) : List Int := (List.range n).map fun (i : Nat) => k + (i : Int)
theorem imarks_at (k : Int) (n i : Nat) (h : i < n) : (imarks k n).getD i 0 = k + (i : Int) := by simp [imarks, List.getD, h]

theorem InCells.push {w : World} {b m k : Nat} {xs : List Int} (h : InCells w b 0 k xs) (hr : Room w b m) (hk : k < m) {x : Int} (hx : xs.getD k 0 = x) : InCells (w.setCell ⟨b, k, none⟩ (.int .i64 x)) b 0 (k + 1) xs := by
  intro i hi
  rw [Nat.zero_add]
  by_cases e : i = k
  · subst e; subst hx
    obtain ⟨u, hu⟩ := (hr i hk).1
    exact World.cell?_setCell_same _ _ _ hu
  · rw [cell_set_far (by omega)]; have := h i (by omega); rwa [Nat.zero_add] at this

/-- A row of numbers that may be written. -/
def OwnIn (w : World) (v : Value) (n lo : Nat) : Prop := (v = .slice none 0 0 ∧ n = 0) ∨ ∃ g cap, v = .slice (some ⟨g, 0, none⟩) n cap ∧ lo ≤ g ∧ g < w.heap.size ∧ Room w g n
/-- Marks lie in it. -/
def MarkedIn (w : World) (v : Value) (n : Nat) (k : Int) : Prop := ∃ a cap, v = .slice a n cap ∧ (n = 0 ∨ ∃ g, a = some ⟨g, 0, none⟩ ∧ InCells w g 0 n (imarks k n))

theorem MarkedIn.kept {w w' : World} {v : Value} {n : Nat} {k : Int} (h : MarkedIn w v n k) (hb : Below w.heap.size w w') : MarkedIn w' v n k := by
  obtain ⟨a, cap, hv, h1⟩ := h
  refine ⟨a, cap, hv, ?_⟩
  rcases h1 with h1 | ⟨g, ha, hc⟩
  · exact .inl h1
  · exact .inr ⟨g, ha, hc.kept hb⟩

theorem MarkedIn.far {w w' : World} {v : Value} {n : Nat} {k : Int} {row : Option Nat} (h : MarkedIn w v n k) (hg : w.grownBy w' row) (hne : v.ownBlock = none ∨ v.ownBlock ≠ row) : MarkedIn w' v n k := by
  obtain ⟨a, cap, rfl, h1⟩ := h
  refine ⟨a, cap, rfl, ?_⟩
  rcases h1 with h1 | ⟨g, rfl, hc⟩
  · exact .inl h1
  · refine .inr ⟨g, rfl, fun i hi => ?_⟩
    have hne' : some g ≠ row := by
      rcases hne with hne | hne
      · simp [Value.ownBlock] at hne
      · exact hne
    exact cell_far hg hne' (hc i hi)

theorem OwnIn.kept {w w' : World} {v : Value} {n lo : Nat} (h : OwnIn w v n lo) (hb : Below w.heap.size w w') : OwnIn w' v n lo := by
  rcases h with h | ⟨g, cap, hv, hl, hg, hr⟩
  · exact .inl h
  · exact .inr ⟨g, cap, hv, hl, Nat.lt_of_lt_of_le hg hb.size, hr.kept hb⟩

theorem OwnIn.far {w w' : World} {v : Value} {n lo : Nat} {row : Option Nat} (h : OwnIn w v n lo) (hg : w.grownBy w' row) (hne : v.ownBlock = none ∨ v.ownBlock ≠ row) : OwnIn w' v n lo := by
  rcases h with h | ⟨g, cap, rfl, hl, hlt, hr⟩
  · exact .inl h
  · refine .inr ⟨g, cap, rfl, hl, Nat.lt_of_lt_of_le hlt hg.size, hr.far hg ?_⟩
    rcases hne with hne | hne
    · simp [Value.ownBlock] at hne
    · exact hne

/-- Where a value's row lies. -/
def Blk (v : Value) (lo hi : Nat) : Prop := v.ownBlock = none ∨ ∃ q, v.ownBlock = some q ∧ lo ≤ q ∧ q < hi

theorem blk_own {w : World} {base e s : Nat} {v : Value} {n : Nat} {xs : List Value} (h : w.ownsRow base e s v n xs) : Blk v base w.heap.size := by
  cases hv : v.ownBlock with
  | none => exact .inl hv
  | some q => exact .inr ⟨q, hv, h.lt q hv⟩

theorem Blk.far {v : Value} {lo hi x : Nat} (h : Blk v lo hi) (hx : x < lo ∨ hi ≤ x) : v.ownBlock = none ∨ v.ownBlock ≠ some x := by
  rcases h with h | ⟨q, h, h1, h2⟩
  · exact .inl h
  · right; rw [h]; intro e; simp at e; omega

theorem Blk.apart {v u : Value} {lo hi lo' hi' : Nat} (h : Blk v lo hi) (h' : Blk u lo' hi') (hx : hi ≤ lo' ∨ hi' ≤ lo) : v.ownBlock = none ∨ v.ownBlock ≠ u.ownBlock := by
  rcases h with h | ⟨q, h, h1, h2⟩
  · exact .inl h
  · right; rw [h]
    rcases h' with h' | ⟨q', h', h3, h4⟩
    · rw [h']; simp
    · rw [h']; intro e; simp at e; omega

theorem Blk.low {v : Value} {lo hi : Nat} (h : Blk v lo hi) : ∀ k, v.ownBlock = some k → lo ≤ k := by
  intro k hk
  rcases h with h | ⟨q, h, h1, _⟩
  · rw [h] at hk; cases hk
  · rw [h] at hk; simp at hk; omega

theorem InsAt.set {w : World} {v : Value} {xs : List Int} (h : InsAt w v xs) {g : Nat} (hne : v.ownBlock ≠ some g) (j : Nat) (u : Value) : InsAt (w.setCell ⟨g, j, none⟩ u) v xs := by
  obtain ⟨a, cap, rfl, h1, h2, h3⟩ := h
  refine ⟨a, cap, rfl, h1, h2, ?_⟩
  rcases h3 with h3 | ⟨b, off, rfl, hc⟩
  · exact .inl h3
  · refine .inr ⟨b, off, rfl, fun i hi => ?_⟩
    rw [cell_set_far (.inl (fun e => hne (by rw [e]; rfl)))]; exact hc i hi

end Go.Proofs.YtedlhepbbefikaaGreatDoor
