/- A deal is drawn. -/
import Derived.Test.YtmikdkdgpomiaaaDoorSim
namespace Go.Proofs.YtmikdkdgpomiaaaDoor
open Go.RowKit

def stFlat (ss : List St) : List Value := ss.flatMap fun s => [.int .i64 s.op, .int .i64 s.key, .int .i64 s.num]

theorem stFlat_append (a b : List St) : stFlat (a ++ b) = stFlat a ++ stFlat b := by simp [stFlat]

theorem stFlat_at (ss : List St) (i : Nat) (h : i < ss.length) : (stFlat ss)[i * 3]? = some (.int .i64 (ss.getD i St.z).op) ∧ (stFlat ss)[i * 3 + 1]? = some (.int .i64 (ss.getD i St.z).key) ∧ (stFlat ss)[i * 3 + 2]? = some (.int .i64 (ss.getD i St.z).num) := by
  induction ss generalizing i with
  | nil => simp at h
  | cons p r ih =>
    cases i with
    | zero => simp [stFlat]
    | succ i =>
      obtain ⟨h0, h1, h2⟩ := ih i (by simpa using h)
      have e0 : (i + 1) * 3 = i * 3 + 1 + 1 + 1 := by omega
      have e1 : (i + 1) * 3 + 1 = i * 3 + 1 + 1 + 1 + 1 := by omega
      have e2 : (i + 1) * 3 + 2 = i * 3 + 2 + 1 + 1 + 1 := by omega
      rw [e2, e1, e0]
      simp only [stFlat, List.flatMap_cons, List.cons_append, List.nil_append, List.getElem?_cons_succ, List.getD_cons_succ]
      exact ⟨h0, h1, h2⟩

/-- A row of statements that the call owns reads as these statements, and may be written. -/
theorem owned_sts {w : World} {base e : Nat} {v : Value} {ss : List St} (h : w.ownsRow base e 3 v ss.length (stFlat ss)) :
    StsAt w v ss ∧ ((v = .slice none 0 0 ∧ ss = []) ∨ ∃ g cap, v = .slice (some ⟨g, 0, none⟩) ss.length cap ∧ base ≤ g ∧ g < w.heap.size ∧ Room w g (ss.length * 3)) := by
  obtain ⟨h1, h2⟩ := h
  rcases h2 with ⟨rfl, h0⟩ | ⟨g, cap, cur, rfl, hg, hh, hc1, hc2, hs, ht⟩
  · have : ss = [] := List.eq_nil_of_length_eq_zero h0
    subst this
    exact ⟨⟨none, 0, rfl, by simp, by simp [maxLen], .inl rfl⟩, .inl ⟨rfl, rfl⟩⟩
  · have hlt : g < w.heap.size := by
      rcases Nat.lt_or_ge g w.heap.size with hlt | hge
      · exact hlt
      · rw [Array.getElem?_eq_none hge] at hh; cases hh
    have hcell : ∀ j, w.cell? ⟨g, j, none⟩ = cur[j]? := fun j => cell_of_row w g j cur e (0, 0) hh
    have hcur : ∀ j, j < ss.length * 3 → cur[j]? = (stFlat ss)[j]? := fun j hj => by
      rw [← ht, List.getElem?_take_of_lt hj]; simp
    refine ⟨⟨_, cap, rfl, hc1, hc2, .inr ⟨g, 0, rfl, fun i hi => ?_⟩⟩, .inr ⟨g, cap, rfl, hg, hlt, fun j hj => ⟨?_, ?_⟩⟩⟩
    · obtain ⟨a0, a1, a2⟩ := stFlat_at ss i hi
      simp only [Nat.zero_add]
      exact ⟨by rw [hcell, hcur _ (by omega), a0], by rw [hcell, hcur _ (by omega), a1], by rw [hcell, hcur _ (by omega), a2]⟩
    · have : j < cur.size := by rw [hs]; exact Nat.lt_of_lt_of_le hj (Nat.mul_le_mul_right 3 hc1)
      exact ⟨cur[j], by rw [hcell]; simp [this]⟩
    · simp [World.frozen?, hh]

theorem grownBy_setOwnD {w w' : World} {row : Option Nat} (h : w.grownBy w' row) {g : Nat} (hg : w.heap.size ≤ g) (j : Nat) (u : Value) : w.grownBy (w'.setCell ⟨g, j, none⟩ u) row :=
  ⟨h.os, h.tape, h.output, by simpa [World.setCell] using h.size, fun k hk hne => by
    rw [Below.heap_setCell _ _ _ _ (by show k ≠ g; omega)]; exact h.block k hk hne⟩

theorem Rd.setD {w : World} {B p g : Nat} (h : Rd w B p) (hg : B < g) (j : Nat) (u : Value) : Rd (w.setCell ⟨g, j, none⟩ u) B p :=
  h.far (grownBy_set (grownBy_refl w (some g)) j u) (fun y hy e => by simp at e; omega)

theorem ownsRow_setD {w : World} {base e s : Nat} {v : Value} {n : Nat} {xs : List Value} (h : w.ownsRow base e s v n xs) {g j : Nat} {u : Value} (hne : v.ownBlock ≠ some g) : (w.setCell ⟨g, j, none⟩ u).ownsRow base e s v n xs :=
  h.kept (grownBy_set (grownBy_refl w (some g)) j u) (.inr hne)

/-- Block g is a box of its own that holds these cells. -/
structure BoxD (w : World) (g : Nat) (T : TypeId) (cs : Array Value) : Prop where
  row : w.heap[g]? = some (.cells cs T (0, 0))

theorem BoxD.lt {w : World} {g : Nat} {T : TypeId} {cs : Array Value} (h : BoxD w g T cs) : g < w.heap.size := (Array.getElem?_eq_some_iff.1 h.row).1
theorem BoxD.cell {w : World} {g : Nat} {T : TypeId} {cs : Array Value} (h : BoxD w g T cs) (j : Nat) : w.cell? ⟨g, j, none⟩ = cs[j]? := cell_of_row w _ j _ _ _ h.row
theorem BoxD.free {w : World} {g : Nat} {T : TypeId} {cs : Array Value} (h : BoxD w g T cs) (j : Nat) : w.frozen? ⟨g, j, none⟩ = false := frozen_of_row w _ j _ _ h.row
theorem BoxD.far {w w' : World} {g : Nat} {T : TypeId} {cs : Array Value} {row : Option Nat} (h : BoxD w g T cs) (hg : w.grownBy w' row) (hne : some g ≠ row) : BoxD w' g T cs := ⟨(hg.block g h.lt hne).trans h.row⟩
theorem BoxD.made (w : World) (T : TypeId) (cs : Array Value) : BoxD (w.alloc (.cells cs T)) w.heap.size T cs := ⟨heap_alloc_new _ _⟩
theorem BoxD.made1 (w : World) (o : Obj) (T : TypeId) (cs : Array Value) : BoxD ((w.alloc o).alloc (.cells cs T)) (w.heap.size + 1) T cs := by
  have := BoxD.made (w.alloc o) T cs
  rwa [show (w.alloc o).heap.size = w.heap.size + 1 by simp] at this
theorem BoxD.allocK {w : World} {g : Nat} {T : TypeId} {cs : Array Value} {o : Obj} (h : BoxD w g T cs) : BoxD (w.alloc o) g T cs := ⟨(heap_alloc_old _ _ h.lt).trans h.row⟩
theorem BoxD.drewK {w : World} {g : Nat} {T : TypeId} {cs : Array Value} (h : BoxD w g T cs) : BoxD w.drew g T cs := ⟨h.row⟩
theorem BoxD.set3 {w : World} {g : Nat} {T : TypeId} {a b c : Value} (h : BoxD w g T #[a, b, c]) (x y z : Value) : BoxD (((w.setCell ⟨g, 0, none⟩ x).setCell ⟨g, 1, none⟩ y).setCell ⟨g, 2, none⟩ z) g T #[x, y, z] :=
  ⟨by rw [heap_setCell_same _ _ _ _ _ _ (heap_setCell_same _ _ _ _ _ _ (heap_setCell_same _ _ _ _ _ _ h.row))]; rfl⟩
theorem BoxD.set {w : World} {g : Nat} {T : TypeId} {cs : Array Value} (h : BoxD w g T cs) (j : Nat) (u : Value) : BoxD (w.setCell ⟨g, j, none⟩ u) g T (cs.setIfInBounds j u) := ⟨heap_setCell_same _ _ _ _ _ _ h.row⟩
theorem BoxD.three {w : World} {g : Nat} {T : TypeId} {a b c : Value} (h : BoxD w g T #[a, b, c]) : w.cell? ⟨g, 0, none⟩ = some a ∧ w.cell? ⟨g, 1, none⟩ = some b ∧ w.cell? ⟨g, 2, none⟩ = some c := ⟨h.cell 0, h.cell 1, h.cell 2⟩

theorem Cf.made1 (w : World) (o' : Obj) {cs : Array Value} {t : TypeId} {o : Nat} {v : Value} (h : cs[o]? = some v) : Cf ((w.alloc o').alloc (.cells cs t)) (w.heap.size + 1) o v := by
  have := Cf.made (w.alloc o') (t := t) h
  rwa [show (w.alloc o').heap.size = w.heap.size + 1 by simp] at this

theorem Ce.made (w : World) {cs : Array Value} {t : TypeId} {o : Nat} {v : Value} (h : cs[o]? = some v) : Ce (w.alloc (.cells cs t)) w.heap.size o v := ⟨(Cf.made w h).cell⟩
theorem Ce.made1 (w : World) (o' : Obj) {cs : Array Value} {t : TypeId} {o : Nat} {v : Value} (h : cs[o]? = some v) : Ce ((w.alloc o').alloc (.cells cs t)) (w.heap.size + 1) o v := ⟨(Cf.made1 w o' h).cell⟩

/-- What is drawn so far: statements in a row of one's own, and the reader. -/
structure Pk (w wc : World) (B q : Nat) (r : Value) (L : List St) : Prop where
  own : wc.ownsRow w.heap.size 45 3 r L.length (stFlat L)
  rd : Rd wc B q
  grown : w.grownBy wc (some B)

theorem Pk.nB {w wc : World} {B q : Nat} {r : Value} {L : List St} (h : Pk w wc B q r L) (hB : B < w.heap.size) : r.ownBlock ≠ some B := fun e => by
  have := (h.own.lt B e).1; omega
theorem Pk.drewK {w wc : World} {B q : Nat} {r : Value} {L : List St} (h : Pk w wc B q r L) : Pk w wc.drew B q r L := ⟨h.own, h.rd.drewK, grownBy_drew h.grown⟩
theorem Pk.allocK {w wc : World} {B q : Nat} {r : Value} {L : List St} {o : Obj} (h : Pk w wc B q r L) : Pk w (wc.alloc o) B q r L := ⟨h.own.alloc o, h.rd.allocK, grownBy_trans h.grown (World.grownBy_alloc wc o _)⟩
theorem Pk.pick {w wc w' : World} {B q q' : Nat} {r : Value} {L : List St} (h : Pk w wc B q r L) (hg : wc.grownBy w' (some B)) (hr : Rd w' B q') (hB : B < w.heap.size) : Pk w w' B q' r L := ⟨h.own.kept hg (.inr (h.nB hB)), hr, grownBy_trans h.grown hg⟩
theorem Pk.setK {w wc : World} {B q : Nat} {r : Value} {L : List St} (h : Pk w wc B q r L) {g : Nat} (hg : w.heap.size ≤ g) (hB : B < w.heap.size) (hne : r.ownBlock ≠ some g) (j : Nat) (u : Value) : Pk w (wc.setCell ⟨g, j, none⟩ u) B q r L :=
  ⟨ownsRow_setD h.own hne, h.rd.setD (by omega) j u, grownBy_setOwnD h.grown hg j u⟩

/-- A statement beside it, in a box of its own. -/
structure DSt (w wc : World) (B q : Nat) (r : Value) (L : List St) (g : Nat) (op key num : Int) : Prop where
  pk : Pk w wc B q r L
  box : BoxD wc g 45 #[.int .i64 op, .int .i64 key, .int .i64 num]
  glo : w.heap.size ≤ g
  gne : r.ownBlock ≠ some g

end Go.Proofs.YtmikdkdgpomiaaaDoor
