/- Rows that the library sorts or thins out: what lies there behind slices.Sort and slices.Compact. Nothing of the program's text is named here. -/
import Derived.Test.YtedlhepbbefikaaGreatDoorIntsK
import Derived.Sort.Grow
import Derived.Lib.SlicesCompact
namespace Go.Proofs.YtedlhepbbefikaaGreatDoor
open Go.RowKit Go.Sort

theorem own_parts {w : World} {base e g n cap : Nat} {xs : List Value} (h : w.ownsRow base e 1 (.slice (some ⟨g, 0, none⟩) n cap) n xs) :
    xs.length = n ∧ base ≤ g ∧ ∃ cur, w.heap[g]? = some (.cells cur e (0, 0)) ∧ n ≤ cap ∧ cap ≤ maxLen ∧ cur.size = cap ∧ cur.toList.take n = xs := by
  obtain ⟨hl, h⟩ := h
  rcases h with ⟨h, -⟩ | ⟨g', cap', cur, h, hg, hh, h1, h2, h3, h4⟩
  · cases h
  · cases h
    rw [Nat.mul_one] at hl h3 h4
    exact ⟨hl, hg, cur, hh, h1, h2, h3, h4⟩

theorem own_cur {cur : Array Value} {n : Nat} {zs : List Int} (hz : zs.length = n) (h : cur.toList.take n = zs.map (Value.int .i64)) {j : Nat} (hj : j < n) : cur[j]? = some (.int .i64 zs.toArray[j]!) := by
  have h1 : (cur.toList.take n)[j]? = cur[j]? := by rw [List.getElem?_take_of_lt hj]; simp
  rw [← h1, h]
  simp only [List.getElem?_map, List.getElem!_toArray]
  rw [getElem!_pos zs j (by omega), List.getElem?_eq_getElem (by omega)]
  rfl

theorem holds_own {w : World} {base e g n cap : Nat} {zs : List Int} (h : w.ownsRow base e 1 (.slice (some ⟨g, 0, none⟩) n cap) n (zs.map (Value.int .i64))) : Holds (Value.int .i64) w g 0 zs.toArray := by
  obtain ⟨hl, hg, cur, hh, h1, h2, h3, h4⟩ := own_parts h
  have hz : zs.length = n := by simpa using hl
  intro j hj
  have hj' : j < n := by simpa [hz] using hj
  refine ⟨?_, ?_⟩
  · rw [Nat.zero_add, cell_of_row w _ j _ _ _ hh]
    exact own_cur hz h4 hj'
  · rw [Nat.zero_add]; exact frozen_of_row w _ j _ _ hh

theorem heap_putRow {w : World} {g q : Nat} {cur : Array Value} {e : TypeId} {fr : Nat × Nat} (hh : w.heap[g]? = some (.cells cur e fr)) (d : Array Int) :
    (putRow (Value.int .i64) (Sort.ahead w q) g 0 d).heap[g]? = some (.cells (putCells (Value.int .i64) 0 d cur) e fr) := by
  simp [putRow, mapBlock, Array.getElem?_modify, Sort.ahead, hh, onCells]

theorem putRow_own {w : World} {base e g n cap q : Nat} {xs : List Value} {ys : List Int} (h : w.ownsRow base e 1 (.slice (some ⟨g, 0, none⟩) n cap) n xs) (hy : ys.length = n) :
    (putRow (Value.int .i64) (Sort.ahead w q) g 0 ys.toArray).ownsRow base e 1 (.slice (some ⟨g, 0, none⟩) n cap) n (ys.map (Value.int .i64)) := by
  obtain ⟨hl, hg, cur, hh, h1, h2, h3, h4⟩ := own_parts h
  refine ⟨by simp [hy], .inr ⟨g, cap, putCells (Value.int .i64) 0 ys.toArray cur, rfl, hg, heap_putRow hh _, h1, h2, by simp [putCells, h3], ?_⟩⟩
  rw [Nat.mul_one]
  apply List.ext_getElem?
  intro j
  by_cases hj : j < n
  · rw [List.getElem?_take_of_lt hj]
    have hc : j < cur.size := by omega
    simp only [putCells, Array.getElem?_toList, Array.getElem?_mapIdx, Array.getElem?_eq_getElem hc, Option.map_some, List.getElem?_map, Nat.zero_le, true_and, Nat.zero_add, List.size_toArray, hy, Nat.sub_zero, List.getElem!_toArray]
    rw [if_pos hj, getElem!_pos ys j (by omega), List.getElem?_eq_getElem (by omega)]
    rfl
  · rw [List.getElem?_eq_none (by simp; omega), List.getElem?_eq_none (by simp; omega)]

theorem grow_own {w : World} {base e s n : Nat} {v : Value} {xs : List Value} (h : w.ownsRow base e s v n xs) (os : Array Obj) : (grow w os).ownsRow base e s v n xs := by
  obtain ⟨hl, h⟩ := h
  refine ⟨hl, ?_⟩
  rcases h with h | ⟨g, cap, cur, hv, hg, hh, h1⟩
  · exact .inl h
  · have hlt : g < w.heap.size := (Array.getElem?_eq_some_iff.1 hh).1
    exact .inr ⟨g, cap, cur, hv, hg, by rw [heap_grow_old w os hlt]; exact hh, h1⟩

theorem own_head {w : World} {base e g n cap m : Nat} {xs : List Value} (h : w.ownsRow base e 1 (.slice (some ⟨g, 0, none⟩) n cap) n xs) (hm : m ≤ n) :
    w.ownsRow base e 1 (.slice (some ⟨g, 0, none⟩) m cap) m (xs.take m) := by
  obtain ⟨hl, hg, cur, hh, h1, h2, h3, h4⟩ := own_parts h
  refine ⟨by rw [List.length_take, hl]; omega, .inr ⟨g, cap, cur, rfl, hg, hh, by omega, h2, by omega, ?_⟩⟩
  rw [← h4, List.take_take, Nat.mul_one, Nat.min_eq_left hm]

theorem below_putRow {B : Nat} {w0 w : World} (h : Below B w0 w) {g : Nat} (hg : B ≤ g) (q off : Nat) (d : Array Int) : Below B w0 (putRow (Value.int .i64) (Sort.ahead w q) g off d) :=
  ⟨h.os, h.tape, h.output, by simpa [Sort.ahead] using h.size, fun k hk => by
    rw [← h.block k hk]
    simp [putRow, mapBlock, Array.getElem?_modify, Sort.ahead, show g ≠ k by omega]⟩
theorem below_grow {B : Nat} {w0 w : World} (h : Below B w0 w) (hs : B ≤ w.heap.size) (os : Array Obj) : Below B w0 (grow w os) :=
  ⟨h.os, h.tape, h.output, by have := h.size; simp; omega, fun k hk => by rw [heap_grow_old w os (by omega)]; exact h.block k hk⟩

/-- .. of a row that lies alone: all other blocks are as they were. -/
theorem gr_putRow {w : World} {g : Nat} (q off : Nat) (d : Array Int) (os : Array Obj) : w.grownBy (grow (putRow (Value.int .i64) (Sort.ahead w q) g off d) os) (some g) :=
  ⟨rfl, rfl, rfl, by simp [Sort.ahead], fun k hk hne => by
    rw [heap_grow_old _ os (by simpa [Sort.ahead] using hk)]
    simp [putRow, mapBlock, Array.getElem?_modify, Sort.ahead, show g ≠ k from fun e => hne (by rw [e])]⟩

theorem own_compact {w : World} {base e g n cap q : Nat} {xs : List Value} {zs : List Int} (h : w.ownsRow base e 1 (.slice (some ⟨g, 0, none⟩) n cap) n xs) (hz : zs.length = n) (hle : (Lib.compact zs).length ≤ zs.length) :
    (putRow (Value.int .i64) (Sort.ahead w q) g 0 (Lib.compact zs ++ List.replicate (zs.length - (Lib.compact zs).length) 0).toArray).ownsRow base e 1 (.slice (some ⟨g, 0, none⟩) (Lib.compact zs).length cap) (Lib.compact zs).length ((Lib.compact zs).map (Value.int .i64)) := by
  have h1 := own_head (putRow_own (q := q) (ys := Lib.compact zs ++ List.replicate (zs.length - (Lib.compact zs).length) 0) h (by simp; omega)) (m := (Lib.compact zs).length) (by omega)
  rw [← List.map_take, List.take_left] at h1
  exact h1

end Go.Proofs.YtedlhepbbefikaaGreatDoor
