/- Rows of holds that may be written, and marks in them. Nothing of the program's text is named here. -/
import Derived.Test.YtedlhepbbefikaaGreatDoorHd
import Derived.Test.YtedlhepbbefikaaGreatDoorResK
namespace Go.Proofs.YtedlhepbbefikaaGreatDoor
open Go.RowKit

/-- A row that may be written: n elements of k cells each. -/
def OwnK (w : World) (v : Value) (n lo k : Nat) : Prop := (v = .slice none 0 0 ∧ n = 0) ∨ ∃ g cap, v = .slice (some ⟨g, 0, none⟩) n cap ∧ lo ≤ g ∧ g < w.heap.size ∧ Room w g (n * k)

section
variable {w w' : World} {v : Value} {n lo k : Nat}
theorem OwnK.kept (h : OwnK w v n lo k) (hb : Below w.heap.size w w') : OwnK w' v n lo k := by
  rcases h with h | ⟨g, cap, hv, hl, hg, hr⟩
  · exact .inl h
  · exact .inr ⟨g, cap, hv, hl, Nat.lt_of_lt_of_le hg hb.size, hr.kept hb⟩
theorem OwnK.far {row : Option Nat} (h : OwnK w v n lo k) (hg : w.grownBy w' row) (hne : v.ownBlock = none ∨ v.ownBlock ≠ row) : OwnK w' v n lo k := by
  rcases h with h | ⟨g, cap, rfl, hl, hlt, hr⟩
  · exact .inl h
  · refine .inr ⟨g, cap, rfl, hl, Nat.lt_of_lt_of_le hlt hg.size, hr.far hg ?_⟩
    rcases hne with hne | hne
    · simp [Value.ownBlock] at hne
    · exact hne
theorem OwnK.blk (h : OwnK w v n lo k) : Blk v lo w.heap.size := by
  rcases h with ⟨rfl, _⟩ | ⟨g, cap, rfl, hl, hg, _⟩
  · exact .inl rfl
  · exact .inr ⟨g, rfl, hl, hg⟩
theorem OwnK.slice (h : OwnK w v n lo k) : ∃ a c, v = .slice a n c := by
  rcases h with ⟨rfl, rfl⟩ | ⟨g, cap, rfl, _⟩
  · exact ⟨_, _, rfl⟩
  · exact ⟨_, _, rfl⟩
theorem OwnK.set (h : OwnK w v n lo k) (a : Addr) (u : Value) : OwnK (w.setCell a u) v n lo k := by
  rcases h with h | ⟨g, cap, rfl, hl, hlt, hr⟩
  · exact .inl h
  · exact .inr ⟨g, cap, rfl, hl, by simpa [World.setCell] using hlt, hr.set _ _⟩
theorem OwnK.low {lo' : Nat} (h : OwnK w v n lo k) (hl : lo' ≤ lo) : OwnK w v n lo' k := by
  rcases h with h | ⟨g, cap, rfl, hl', hlt, hr⟩
  · exact .inl h
  · exact .inr ⟨g, cap, rfl, by omega, hlt, hr⟩
theorem OwnK.of_own {e : Nat} {xs : List Value} (h : w.ownsRow lo e k v n xs) : OwnK w v n lo k := by
  obtain ⟨h1, h2⟩ := h
  rcases h2 with ⟨rfl, h0⟩ | ⟨g, cap, cur, rfl, hg, hh, hc1, hc2, hs, ht⟩
  · exact .inl ⟨rfl, h0⟩
  · have hlt : g < w.heap.size := by
      rcases Nat.lt_or_ge g w.heap.size with hlt | hge
      · exact hlt
      · rw [Array.getElem?_eq_none hge] at hh; cases hh
    refine .inr ⟨g, cap, rfl, hg, hlt, fun j hj => ⟨?_, ?_⟩⟩
    · have : j < cur.size := by rw [hs]; exact Nat.lt_of_lt_of_le hj (Nat.mul_le_mul_right k hc1)
      exact ⟨cur[j], by rw [cell_of_row w g j cur e (0, 0) hh]; simp [this]⟩
    · simp [World.frozen?, hh]
end

theorem RowAt.set {α : Type} {enc : α → List Value} {w : World} {v : Value} {xs : List α} (h : RowAt enc w v xs) {g : Nat} (hne : v.ownBlock ≠ some g) (j : Nat) (u : Value) : RowAt enc (w.setCell ⟨g, j, none⟩ u) v xs :=
  h.far (grownBy_set (grownBy_refl w (some g)) j u) (.inr hne)

/-- In block b, from offset off on, lie the first n holds of hs, four cells each. -/
def HdCells (w : World) (b off n : Nat) (hs : List Hd) : Prop := ∀ i, i < n →
  w.cell? ⟨b, off + i * 4, none⟩ = some (.int .i64 (hs.getD i Hd.z).stamp) ∧ w.cell? ⟨b, off + i * 4 + 1, none⟩ = some (.int .i64 (hs.getD i Hd.z).try_) ∧
  w.cell? ⟨b, off + i * 4 + 2, none⟩ = some (.bool (hs.getD i Hd.z).share) ∧ w.cell? ⟨b, off + i * 4 + 3, none⟩ = some (.bool (hs.getD i Hd.z).firm)

theorem HdCells.kept {w w' : World} {b off n : Nat} {hs : List Hd} (h : HdCells w b off n hs) (hb : Below w.heap.size w w') : HdCells w' b off n hs :=
  fun i hi => ⟨cell_kept hb (h i hi).1, cell_kept hb (h i hi).2.1, cell_kept hb (h i hi).2.2.1, cell_kept hb (h i hi).2.2.2⟩
theorem HdCells.far {w w' : World} {row : Option Nat} {b off n : Nat} {hs : List Hd} (h : HdCells w b off n hs) (hg : w.grownBy w' row) (hne : some b ≠ row) : HdCells w' b off n hs :=
  fun i hi => ⟨cell_far hg hne (h i hi).1, cell_far hg hne (h i hi).2.1, cell_far hg hne (h i hi).2.2.1, cell_far hg hne (h i hi).2.2.2⟩

theorem row_of_hdCells {w : World} {b off c : Nat} {hs : List Hd} (hl : hs.length ≤ c) (hc : c ≤ maxLen) (h : HdCells w b off hs.length hs) : RowAt hdE w (.slice (some ⟨b, off, none⟩) hs.length c) hs := by
  refine ⟨_, c, rfl, hl, hc, .inr ⟨b, off, rfl, fun j u hj => ?_⟩⟩
  have hjl : j < hs.length * 4 := by rw [← flat_len hdE_len]; exact (List.getElem?_eq_some_iff.1 hj).1
  obtain ⟨i, f, rfl, hf⟩ : ∃ i f, j = i * 4 + f ∧ f < 4 := ⟨j / 4, j % 4, by omega, by omega⟩
  have hi : i < hs.length := by omega
  rw [flat_at hdE_len Hd.z hs i f hi hf] at hj
  obtain ⟨h0, h1, h2, h3⟩ := h i hi
  rcases (by omega : f = 0 ∨ f = 1 ∨ f = 2 ∨ f = 3) with rfl | rfl | rfl | rfl
  · simp [hdE] at hj; subst hj; exact h0
  · simp [hdE] at hj; subst hj; rw [← Nat.add_assoc]; exact h1
  · simp [hdE] at hj; subst hj; rw [← Nat.add_assoc]; exact h2
  · simp [hdE] at hj; subst hj; rw [← Nat.add_assoc]; exact h3

/-- One hold more is stored behind the first k. -/
theorem HdCells.push {w : World} {b m k : Nat} {hs : List Hd} (h : HdCells w b 0 k hs) (hr : Room w b m) (hk : k * 4 + 4 ≤ m) {x : Hd} (hx : hs.getD k Hd.z = x) :
    HdCells ((((w.setCell ⟨b, k * 4, none⟩ (.int .i64 x.stamp)).setCell ⟨b, k * 4 + 1, none⟩ (.int .i64 x.try_)).setCell ⟨b, k * 4 + 2, none⟩ (.bool x.share)).setCell ⟨b, k * 4 + 3, none⟩ (.bool x.firm)) b 0 (k + 1) hs := by
  intro i hi
  by_cases e : i = k
  · subst e
    subst hx
    simp only [Nat.zero_add]
    obtain ⟨u0, h0⟩ := (hr (i * 4) (by omega)).1
    obtain ⟨u1, h1⟩ := ((hr.set ⟨b, i * 4, none⟩ (.int .i64 (hs.getD i Hd.z).stamp)) (i * 4 + 1) (by omega)).1
    obtain ⟨u2, h2⟩ := (((hr.set ⟨b, i * 4, none⟩ (.int .i64 (hs.getD i Hd.z).stamp)).set ⟨b, i * 4 + 1, none⟩ (.int .i64 (hs.getD i Hd.z).try_)) (i * 4 + 2) (by omega)).1
    obtain ⟨u3, h3⟩ := ((((hr.set ⟨b, i * 4, none⟩ (.int .i64 (hs.getD i Hd.z).stamp)).set ⟨b, i * 4 + 1, none⟩ (.int .i64 (hs.getD i Hd.z).try_)).set ⟨b, i * 4 + 2, none⟩ (.bool (hs.getD i Hd.z).share)) (i * 4 + 3) (by omega)).1
    refine ⟨?_, ?_, ?_, World.cell?_setCell_same _ _ _ h3⟩
    · rw [cell_set_far (by omega), cell_set_far (by omega), cell_set_far (by omega)]; exact World.cell?_setCell_same _ _ _ h0
    · rw [cell_set_far (by omega), cell_set_far (by omega)]; exact World.cell?_setCell_same _ _ _ h1
    · rw [cell_set_far (by omega)]; exact World.cell?_setCell_same _ _ _ h2
  · obtain ⟨h0, h1, h2, h3⟩ := h i (by omega)
    refine ⟨?_, ?_, ?_, ?_⟩
    all_goals (rw [cell_set_far (by omega), cell_set_far (by omega), cell_set_far (by omega), cell_set_far (by omega)]; assumption)

/-- The marks from k on. -/
def hmarks (k : Int) (n : Nat) : List Hd := (List.range n).map fun (i : Nat) => ⟨k + 4 * (i : Int), k + 4 * (i : Int) + 1, (k + 4 * (i : Int) + 1 + 1) % 3 == 0, (k + 4 * (i : Int) + 1 + 1 + 1) % 3 == 0⟩
theorem hmarks_length (k : Int) (n : Nat) : (hmarks k n).length = n := by simp [hmarks]
theorem hmarks_at (k : Int) (n i : Nat) (h : i < n) : (hmarks k n).getD i Hd.z = ⟨k + 4 * (i : Int), k + 4 * (i : Int) + 1, (k + 4 * (i : Int) + 1 + 1) % 3 == 0, (k + 4 * (i : Int) + 1 + 1 + 1) % 3 == 0⟩ := by simp [hmarks, List.getD, h]

/-- Marks lie in it. -/
def MarkedH (w : World) (v : Value) (n : Nat) (k : Int) : Prop := ∃ a cap, v = .slice a n cap ∧ (n = 0 ∨ ∃ g, a = some ⟨g, 0, none⟩ ∧ HdCells w g 0 n (hmarks k n))
theorem MarkedH.kept {w w' : World} {v : Value} {n : Nat} {k : Int} (h : MarkedH w v n k) (hb : Below w.heap.size w w') : MarkedH w' v n k := by
  obtain ⟨a, cap, hv, h1⟩ := h
  refine ⟨a, cap, hv, ?_⟩
  rcases h1 with h1 | ⟨g, ha, hc⟩
  · exact .inl h1
  · exact .inr ⟨g, ha, hc.kept hb⟩
theorem MarkedH.far {w w' : World} {v : Value} {n : Nat} {k : Int} {row : Option Nat} (h : MarkedH w v n k) (hg : w.grownBy w' row) (hne : v.ownBlock = none ∨ v.ownBlock ≠ row) : MarkedH w' v n k := by
  obtain ⟨a, cap, rfl, h1⟩ := h
  refine ⟨a, cap, rfl, ?_⟩
  rcases h1 with h1 | ⟨g, rfl, hc⟩
  · exact .inl h1
  · refine .inr ⟨g, rfl, hc.far hg ?_⟩
    rcases hne with hne | hne
    · simp [Value.ownBlock] at hne
    · exact hne

def Hd.tup (x : Hd) : Int × Int × Bool × Bool := (x.stamp, x.try_, x.share, x.firm)
theorem Hd.tup_inj {x y : Hd} (h : x.tup = y.tup) : x = y := by cases x; cases y; simp_all [Hd.tup]
def eqHd (a b : Hd) : Bool := decide (a.tup = b.tup)
def eqHds (xs ys : List Hd) : Bool := decide (xs.map Hd.tup = ys.map Hd.tup)
theorem map_tupH_inj {xs ys : List Hd} (h : xs.map Hd.tup = ys.map Hd.tup) : xs = ys := List.map_inj_right (fun _ _ e => Hd.tup_inj e) |>.1 h
theorem eqHds_self (xs : List Hd) : eqHds xs xs = true := by simp [eqHds]

end Go.Proofs.YtedlhepbbefikaaGreatDoor
