/- A strings.Builder of one's own: what writing a string into it does. -/
import Derived.Test.YtedlhepbbefikaaGreatDoorDcS5
import Derived.Lib.Builder
import Derived.Lib.AppendStr
import Derived.Lib.UnsafeStr
namespace Go.Proofs.YtedlhepbbefikaaGreatDoor
open Go.RowKit

theorem Tryz.sizeBld : (Tryz.prog.info? 73).map (·.size) = some 2 := by kernel_rfl
theorem Tryz.liesBld : liesAt Tryz.prog Tryz.prog.depth 73 (2 / Tryz.prog.cellsOf 73) 0 73 1 = true := by kernel_rfl
theorem Tryz.infoU8b : (Tryz.prog.info? 5).map (fun i => (i.zero, i.size, i.bytes)) = some (some (.int .u8 0), 1, 1) := by kernel_rfl

theorem Box.shape {w : World} {g : Nat} {T : TypeId} {u v : Value} (h : Box w g T #[u, v]) : w.shape? g = some (T, 2) := by simp [World.shape?, h.row]

set_option maxRecDepth 100000 in
set_option maxHeartbeats 1000000 in
theorem copyCheck_any (b : Nat) (p v : Value) (w : World) (hx : Box w b 73 #[p, v]) (hp : p = .pointer none ∨ p = .pointer (some ⟨b, 0, none⟩)) :
    Calls Tryz.prog 69 #[.pointer (some ⟨b, 0, none⟩)] w fun e w' => e = .returned (.tuple #[]) ∧ Box w' b 73 #[.pointer (some ⟨b, 0, none⟩), v] ∧ w.grownBy w' (some b) := by
  obtain ⟨j, hj, hjs⟩ := Option.map_eq_some_iff.1 Tryz.sizeBld
  have h0 := hx.cell 0
  simp only [List.getElem?_toArray, List.getElem?_cons_zero] at h0
  have hfz := hx.free 0
  have hsh := hx.shape
  have HX := hide hx
  clear hx
  rcases hp with rfl | rfl
  · go_enter Tryz.func69, Tryz.ntmps69
    go_wp2_with fail
    rw [Lib.run_to_unsafe w ⟨b, 0, none⟩ Tryz.underlying71 Tryz.underlying138 hj (by rw [hjs]; decide) hsh (Nat.zero_lt_succ 1)]
    simp only [Result.andThen]
    rw [Oper.upon_value]
    go_wp2_with fail
    rw [run_callFunc_extern Tryz.func86 (by kernel_rfl) (by kernel_rfl) (by kernel_rfl) (e := Extern.AbiNoEscape.same) (by kernel_rfl)]
    rw [Lib.run_noEscape]
    simp only [Result.andThen]
    rw [Oper.upon_value]
    go_wp2_with fail
    rw [Lib.run_from_unsafe w ⟨b, 0, none⟩ Tryz.underlying138 Tryz.underlying71 hj hsh Tryz.liesBld]
    simp only [Result.andThen]
    rw [Oper.upon_value]
    go_wp2_with fail
    go_end0
    exact ⟨rfl, ⟨heap_setCell_same _ _ _ _ _ _ (unhide HX).row⟩, grownBy_set (grownBy_refl w (some b)) 0 _⟩
  · go_enter Tryz.func69, Tryz.ntmps69
    go_wp2_with fail
    rw [Lib.run_neq_ptr_same w _ Tryz.underlying71 hj]
    go_wp2_with fail
    go_end0
    exact ⟨rfl, unhide HX, grownBy_refl w _⟩

theorem ownsRow_farG {w w' : World} {base e s : Nat} {v : Value} {n : Nat} {xs : List Value} {row : Option Nat} (h : w.ownsRow base e s v n xs) (hg : w.grownBy w' row) (hne : ∀ g, base ≤ g → some g ≠ row) : w'.ownsRow base e s v n xs := by
  obtain ⟨h1, h2⟩ := h
  refine ⟨h1, ?_⟩
  rcases h2 with h2 | ⟨g, cap, cur, hv, hgb, hh, r⟩
  · exact .inl h2
  · have hlt : g < w.heap.size := by
      rcases Nat.lt_or_ge g w.heap.size with hlt | hge
      · exact hlt
      · rw [Array.getElem?_eq_none hge] at hh; cases hh
    exact .inr ⟨g, cap, cur, hv, hgb, by rw [hg.block g hlt (hne g hgb)]; exact hh, r⟩
theorem ownsRow_low {w : World} {base e s : Nat} {v : Value} {n : Nat} {xs : List Value} (h : w.ownsRow base e s v n xs) : ∀ q, v.ownBlock = some q → base ≤ q ∧ q < w.heap.size := by
  intro q hq
  obtain ⟨h1, h2⟩ := h
  rcases h2 with ⟨rfl, -⟩ | ⟨g, cap, cur, rfl, hgb, hh, r⟩
  · simp [Value.ownBlock] at hq
  · simp [Value.ownBlock] at hq
    subst hq
    refine ⟨hgb, ?_⟩
    rcases Nat.lt_or_ge g w.heap.size with hlt | hge
    · exact hlt
    · rw [Array.getElem?_eq_none hge] at hh; cases hh

/-- A builder that holds these bytes: its block, and a row that is owned from base on. -/
structure BldAt (w : World) (b base : Nat) (l : List UInt8) : Prop where
  box : ∃ p v, Box w b 73 #[p, v] ∧ (p = .pointer none ∨ p = .pointer (some ⟨b, 0, none⟩)) ∧ w.ownsRow base 5 1 v l.length (Lib.byteCells l)
  lt : b < base

set_option maxRecDepth 100000 in
set_option maxHeartbeats 1000000 in
theorem writeString_any (b base : Nat) (l : List UInt8) (s : ByteArray) (w : World) (h : BldAt w b base l) (hb : base ≤ w.heap.size) (hl : l.length ≤ 1000000) (hs : s.size ≤ 1000000) :
    Calls Tryz.prog 46 #[.pointer (some ⟨b, 0, none⟩), .string s] w fun e w' => e = .returned (.tuple #[.int .i64 (s.size : Int), .nilIface]) ∧ BldAt w' b base (l ++ s.data.toList) ∧ Below b w w' := by
  obtain ⟨⟨p, v, hx, hp, hown⟩, hlt⟩ := h
  obtain ⟨i0, hi, hz0, hz1, hz2⟩ := info_parts Tryz.infoU8b
  have HCC := hide (copyCheck_any b p v w hx hp)
  have HOWN := hide hown
  have hn : l.length = (l.length : Nat) := rfl
  generalize hN : l.length = N at *
  have HN := hide hN
  clear hx hp hown hn hN
  go_enter Tryz.func46, Tryz.ntmps46
  go_wp2_with fail
  refine (unhide HCC).mono ?_; rintro e w1 ⟨rfl, hx1, hg1⟩
  have hown1 := ownsRow_farG (unhide HOWN) hg1 (fun g hg e => by simp at e; omega)
  have hlow := ownsRow_low hown1
  obtain ⟨a, c, rfl, -⟩ := ownsRow_slice hown1
  have HX1 := hide hx1
  have HG1 := hide hg1
  have HOWN1 := hide hown1
  have HLOW := hide hlow
  have q1 := hx1.cell 1
  have f1 := hx1.free 1
  simp only [List.getElem?_toArray, List.getElem?_cons_zero, List.getElem?_cons_succ] at q1
  have hbl := hx1.lt
  have hz := hg1.size
  clear hx1 hg1 hown1 hlow HCC HOWN
  go_wp2_with (at_builtin; refine Lib.wpList_append_own_string _ rfl _ _ 22 9 rfl base 5 i0 Tryz.underlying22 Tryz.underlying9 hi hz0 hz1 hz2 _ N _ rfl (unhide HOWN1) s rfl (by unfold maxLen; omega) (by omega) (by omega) ?_; intro v2 w2 hown2 hgrow _; have HG2 := hide hgrow; have hx2 := (unhide HX1).far hgrow (fun e => by have := unhide HLOW b e.symm; omega); have HX2 := hide hx2; have HOWN2 := hide hown2; obtain ⟨a2, c2, rfl, -⟩ := ownsRow_slice hown2; have q2 := hx2.cell 1; have f2 := hx2.free 1; simp only [List.getElem?_toArray, List.getElem?_cons_zero, List.getElem?_cons_succ] at q2; have l2 := hx2.lt; clear hgrow hx2 hown2 q1 f1)
  go_ret2
  have hlow2 := ownsRow_low (unhide HOWN2)
  refine ⟨rfl, ⟨⟨_, _, ⟨heap_setCell_same _ _ _ _ _ _ (unhide HX2).row⟩, .inr rfl, ?_⟩, hlt⟩, ?_⟩
  · have e1 : (l ++ s.data.toList).length = N + s.size := by rw [List.length_append, unhide HN]; simp
    have e2 : Lib.byteCells (l ++ s.data.toList) = Lib.byteCells l ++ Lib.strCells s := by rw [Lib.byteCells_append, Lib.strCells_eq]
    rw [e1, e2]
    exact ownsRow_setCell_other (unhide HOWN2) (fun e => by have := hlow2 b e; omega)
  · have b1 : Below b w w1 := Below.grown (Below.refl _ _) (unhide HG1) (by omega) (fun k e => by simp at e; omega)
    have b2 : Below b w w2 := Below.grown b1 (unhide HG2) (by omega) (fun k e => by have := unhide HLOW k e; omega)
    exact b2.setCell (by simp) _

end Go.Proofs.YtedlhepbbefikaaGreatDoor
