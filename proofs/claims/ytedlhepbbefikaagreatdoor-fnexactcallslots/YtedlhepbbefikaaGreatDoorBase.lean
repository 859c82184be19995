/- Plain notions for the walks of this seat: a statement, a pair, and what it is that a slice of them lies in memory. Nothing of the program's text is named here. -/
import Derived.WalkKit
import Derived.WalkSpells
import Derived.WalkLawsBesides
import Derived.Deep.AppendLies
import Derived.Deep.RegionHeld3
import Derived.Deep.QuietTactic
import Derived.BigQuiet
namespace Go.Proofs.YtedlhepbbefikaaGreatDoor
open Go.RowKit

/-- A statement of a deal. -/
structure St where
  op : Int
  key : Int
  num : Int

/-- A key and its value. -/
structure Pr where
  key : Int
  val : Int

def St.z : St := ⟨0, 0, 0⟩
def Pr.z : Pr := ⟨0, 0⟩

/-- In block b, from offset off on, lie the first n statements of ss, three cells each. -/
def StCells (w : World) (b off n : Nat) (ss : List St) : Prop := ∀ i, i < n →
  w.cell? ⟨b, off + i * 3, none⟩ = some (.int .i64 (ss.getD i St.z).op) ∧
  w.cell? ⟨b, off + i * 3 + 1, none⟩ = some (.int .i64 (ss.getD i St.z).key) ∧
  w.cell? ⟨b, off + i * 3 + 2, none⟩ = some (.int .i64 (ss.getD i St.z).num)

/-- In block b, from offset off on, lie the first n pairs of ps, two cells each. -/
def PrCells (w : World) (b off n : Nat) (ps : List Pr) : Prop := ∀ i, i < n →
  w.cell? ⟨b, off + i * 2, none⟩ = some (.int .i64 (ps.getD i Pr.z).key) ∧
  w.cell? ⟨b, off + i * 2 + 1, none⟩ = some (.int .i64 (ps.getD i Pr.z).val)

/-- Block b has m cells that may be written. -/
def Room (w : World) (b m : Nat) : Prop := ∀ j, j < m → (∃ u, w.cell? ⟨b, j, none⟩ = some u) ∧ w.frozen? ⟨b, j, none⟩ = false

/-- The slice value v lies in w and reads as the statements ss. -/
def StsAt (w : World) (v : Value) (ss : List St) : Prop :=
  ∃ a cap, v = .slice a ss.length cap ∧ ss.length ≤ cap ∧ cap ≤ maxLen ∧
    (ss = [] ∨ ∃ b off, a = some ⟨b, off, none⟩ ∧ StCells w b off ss.length ss)

/-- The slice value v lies in w and reads as the pairs ps. -/
def PrsAt (w : World) (v : Value) (ps : List Pr) : Prop :=
  ∃ a cap, v = .slice a ps.length cap ∧ ps.length ≤ cap ∧ cap ≤ maxLen ∧
    (ps = [] ∨ ∃ b off, a = some ⟨b, off, none⟩ ∧ PrCells w b off ps.length ps)

theorem lt_of_cell {w : World} {a : Addr} {v : Value} (h : w.cell? a = some v) : a.block < w.heap.size := by
  rcases Nat.lt_or_ge a.block w.heap.size with hlt | hge
  · exact hlt
  · simp [World.cell?, Array.getElem?_eq_none hge] at h

theorem bcell {W w1 : World} (hb : Below W.heap.size W w1) : (∀ b o, b < W.heap.size → w1.cell? ⟨b, o, none⟩ = W.cell? ⟨b, o, none⟩) ∧ (∀ b o, b < W.heap.size → w1.frozen? ⟨b, o, none⟩ = W.frozen? ⟨b, o, none⟩) :=
  ⟨fun b o h => hb.cell (p := ⟨b, o, none⟩) h, fun b o h => hb.frozen (p := ⟨b, o, none⟩) h⟩

theorem cell_kept {w w' : World} (hb : Below w.heap.size w w') {a : Addr} {v : Value} (h : w.cell? a = some v) : w'.cell? a = some v := by
  rw [hb.cell (lt_of_cell h)]; exact h

theorem StCells.kept {w w' : World} {b off n : Nat} {ss : List St} (h : StCells w b off n ss) (hb : Below w.heap.size w w') : StCells w' b off n ss :=
  fun i hi => ⟨cell_kept hb (h i hi).1, cell_kept hb (h i hi).2.1, cell_kept hb (h i hi).2.2⟩

theorem PrCells.kept {w w' : World} {b off n : Nat} {ps : List Pr} (h : PrCells w b off n ps) (hb : Below w.heap.size w w') : PrCells w' b off n ps :=
  fun i hi => ⟨cell_kept hb (h i hi).1, cell_kept hb (h i hi).2⟩

theorem Room.kept {w w' : World} {b m : Nat} (h : Room w b m) (hb : Below w.heap.size w w') : Room w' b m := fun j hj => by
  obtain ⟨⟨u, hu⟩, hf⟩ := h j hj
  exact ⟨⟨u, cell_kept hb hu⟩, by rw [hb.frozen (p := ⟨b, j, none⟩) (lt_of_cell hu)]; exact hf⟩

theorem StsAt.kept {w w' : World} {v : Value} {ss : List St} (h : StsAt w v ss) (hb : Below w.heap.size w w') : StsAt w' v ss := by
  obtain ⟨a, cap, hv, h1, h2, h3⟩ := h
  refine ⟨a, cap, hv, h1, h2, ?_⟩
  rcases h3 with h3 | ⟨b, off, ha, hc⟩
  · exact .inl h3
  · exact .inr ⟨b, off, ha, hc.kept hb⟩

theorem PrsAt.kept {w w' : World} {v : Value} {ps : List Pr} (h : PrsAt w v ps) (hb : Below w.heap.size w w') : PrsAt w' v ps := by
  obtain ⟨a, cap, hv, h1, h2, h3⟩ := h
  refine ⟨a, cap, hv, h1, h2, ?_⟩
  rcases h3 with h3 | ⟨b, off, ha, hc⟩
  · exact .inl h3
  · exact .inr ⟨b, off, ha, hc.kept hb⟩

theorem cell_set_far {w : World} {b j b' j' : Nat} {u : Value} (h : b ≠ b' ∨ j ≠ j') : (w.setCell ⟨b, j, none⟩ u).cell? ⟨b', j', none⟩ = w.cell? ⟨b', j', none⟩ :=
  World.cell?_setCell_other _ _ _ _ (by intro e; simp at e; omega)

theorem cell_set_isSome {w : World} {a c : Addr} {u x : Value} (h : w.cell? c = some x) : ∃ y, (w.setCell a u).cell? c = some y := by
  by_cases e : a = c
  · subst e; exact ⟨u, World.cell?_setCell_same _ _ _ h⟩
  · exact ⟨x, by rw [World.cell?_setCell_other _ _ _ _ e]; exact h⟩

theorem Room.set {w : World} {b m : Nat} (h : Room w b m) (a : Addr) (u : Value) : Room (w.setCell a u) b m := fun j hj => by
  obtain ⟨⟨x, hx⟩, hf⟩ := h j hj
  exact ⟨cell_set_isSome hx, by rw [World.frozen?_setCell]; exact hf⟩

/-- One statement more is stored behind the first k. -/
theorem StCells.push {w : World} {b m k : Nat} {ss : List St} (h : StCells w b 0 k ss) (hr : Room w b m) (hk : k * 3 + 3 ≤ m) {x : St} (hx : ss.getD k St.z = x) :
    StCells (((w.setCell ⟨b, k * 3, none⟩ (.int .i64 x.op)).setCell ⟨b, k * 3 + 1, none⟩ (.int .i64 x.key)).setCell ⟨b, k * 3 + 2, none⟩ (.int .i64 x.num)) b 0 (k + 1) ss := by
  intro i hi
  by_cases e : i = k
  · subst e
    subst hx
    simp only [Nat.zero_add]
    obtain ⟨u0, h0⟩ := (hr (i * 3) (by omega)).1
    obtain ⟨u1, h1⟩ := ((hr.set ⟨b, i * 3, none⟩ (.int .i64 (ss.getD i St.z).op)) (i * 3 + 1) (by omega)).1
    obtain ⟨u2, h2⟩ := (((hr.set ⟨b, i * 3, none⟩ (.int .i64 (ss.getD i St.z).op)).set ⟨b, i * 3 + 1, none⟩ (.int .i64 (ss.getD i St.z).key)) (i * 3 + 2) (by omega)).1
    refine ⟨?_, ?_, World.cell?_setCell_same _ _ _ h2⟩
    · rw [cell_set_far (by omega), cell_set_far (by omega)]; exact World.cell?_setCell_same _ _ _ h0
    · rw [cell_set_far (by omega)]; exact World.cell?_setCell_same _ _ _ h1
  · obtain ⟨h0, h1, h2⟩ := h i (by omega)
    refine ⟨?_, ?_, ?_⟩
    all_goals (rw [cell_set_far (by omega), cell_set_far (by omega), cell_set_far (by omega)]; assumption)

theorem Room.made (w : World) (z : Array Value) (n e : Nat) : Room (w.alloc (.cells (madeCells z n) e)) w.heap.size n := fun j hj => by
  refine ⟨⟨(madeCells z n)[j]'(by rw [size_madeCells]; exact hj), ?_⟩, ?_⟩
  · rw [World.cell?_alloc_at _ _ _ _ rfl]; simp [size_madeCells, hj]
  · exact World.frozen?_alloc_at _ _ _ _ rfl

theorem take_succ_getD {α : Type} (xs : List α) (d : α) (k : Nat) (h : k < xs.length) : xs.take (k + 1) = xs.take k ++ [xs.getD k d] := by
  rw [List.take_succ_eq_append_getElem h]; simp [List.getD, h]

theorem take_eq_step {α : Type} {d : α} {xs ys : List α} {k : Nat} (h : xs.take k = ys.take k) (hx : k < xs.length) (hy : k < ys.length) (e : xs.getD k d = ys.getD k d) : xs.take (k + 1) = ys.take (k + 1) := by
  rw [take_succ_getD xs d k hx, take_succ_getD ys d k hy, h, e]

theorem all_take_step {α : Type} {d : α} {xs : List α} {k : Nat} {p : α → Bool} (h : (xs.take k).all p = true) (hk : k < xs.length) (e : p (xs.getD k d) = true) : (xs.take (k + 1)).all p = true := by
  rw [take_succ_getD xs d k hk, List.all_append, h, List.all_cons, e]; rfl

theorem all_false_at {α : Type} {d : α} {xs : List α} {k : Nat} {p : α → Bool} (hk : k < xs.length) (e : p (xs.getD k d) = false) : xs.all p = false := by
  rw [List.all_eq_false]
  exact ⟨xs.getD k d, by simp [List.getD, hk], by rw [e]; simp⟩

theorem ownsRow_below {w w' : World} {base e s : Nat} {v : Value} {n : Nat} {xs : List Value} (h : w.ownsRow base e s v n xs) (hb : Below w.heap.size w w') : w'.ownsRow base e s v n xs := by
  obtain ⟨h1, h2⟩ := h
  refine ⟨h1, ?_⟩
  rcases h2 with h2 | ⟨g, cap, cur, hv, hg, hh, r⟩
  · exact .inl h2
  · have hlt : g < w.heap.size := by
      rcases Nat.lt_or_ge g w.heap.size with hlt | hge
      · exact hlt
      · rw [Array.getElem?_eq_none hge] at hh; cases hh
    exact .inr ⟨g, cap, cur, hv, hg, by rw [hb.block g hlt]; exact hh, r⟩

theorem hide {p : Prop} (h : p) : Hid p := h
theorem unhide {p : Prop} (h : Hid p) : p := h

theorem ret_bool {a b : Bool} (h : a = b) : Ending.returned (.bool a) = .returned (.bool b) := by rw [h]
theorem ret_two {a b c d : Value} (h1 : a = c) (h2 : b = d) : Ending.returned (.tuple #[a, b]) = .returned (.tuple #[c, d]) := by rw [h1, h2]
theorem ret_three {a b c a' b' c' : Value} (h1 : a = a') (h2 : b = b') (h3 : c = c') : Ending.returned (.tuple #[a, b, c]) = .returned (.tuple #[a', b', c']) := by rw [h1, h2, h3]
theorem ret_val {a b : Value} (h : a = b) : Ending.returned a = .returned b := by rw [h]
theorem ret_int {k : IntKind} {a b : Int} (h : a = b) : Ending.returned (.int k a) = .returned (.int k b) := by rw [h]

end Go.Proofs.YtedlhepbbefikaaGreatDoor
