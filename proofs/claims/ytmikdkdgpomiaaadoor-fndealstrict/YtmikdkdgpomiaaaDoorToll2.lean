/- A world at first, its houses with it. -/
import Derived.Test.YtmikdkdgpomiaaaDoorToll1
import Derived.Deep.RegionLaw
namespace Go.Proofs.YtmikdkdgpomiaaaDoor
open Go.RowKit

theorem Tryd.infoHs : (Tryd.prog.info? 113).map (fun i => (i.zero, i.size, i.bytes)) = some (some (.agg #[.int .i64 0, .bool false, .slice none 0 0, .int .i64 0, .slice none 0 0, .slice none 0 0]), 6, 96) := by kernel_rfl

def tollZ : Array Value := #[.int .i64 0, .bool false, .int .i64 0, .int .i64 0, .slice none 0 0, .slice none 0 0, .slice none 0 0, .slice none 0 0, .slice none 0 0, .slice none 0 0]
def tollC (v : Value) : Array Value := #[.int .i64 0, .bool true, .int .i64 1, .int .i64 1, .slice none 0 0, .slice none 0 0, .slice none 0 0, v, .slice none 0 0, .slice none 0 0]

structure TollAt (w : World) (g0 g1 : Nat) (v : Value) : Prop where
  z : w.heap[g0]? = some (.cells tollZ 93 (0, 0))
  c : ∀ j, j < 10 → w.cell? ⟨g1, j, none⟩ = (tollC v)[j]?
  f : w.frozen? ⟨g1, 7, none⟩ = false

theorem TollAt.lt0 {w : World} {g0 g1 : Nat} {v : Value} (h : TollAt w g0 g1 v) : g0 < w.heap.size := (Array.getElem?_eq_some_iff.1 h.z).1
theorem TollAt.c7 {w : World} {g0 g1 : Nat} {v : Value} (h : TollAt w g0 g1 v) : w.cell? ⟨g1, 7, none⟩ = some v := h.c 7 (by omega)
theorem TollAt.lt1 {w : World} {g0 g1 : Nat} {v : Value} (h : TollAt w g0 g1 v) : g1 < w.heap.size := lt_of_cell h.c7

theorem TollAt.far {w w' : World} {g0 g1 : Nat} {v : Value} {row : Option Nat} (h : TollAt w g0 g1 v) (hg : w.grownBy w' row) (h0 : some g0 ≠ row) (h1 : some g1 ≠ row) : TollAt w' g0 g1 v :=
  ⟨(hg.block g0 h.lt0 h0).trans h.z, fun j hj => (hg.cell_far ⟨g1, j, none⟩ h.lt1 h1).trans (h.c j hj), (hg.frozen_far ⟨g1, 7, none⟩ h.lt1 h1).trans h.f⟩

theorem TollAt.kept {w w' : World} {g0 g1 : Nat} {v : Value} (h : TollAt w g0 g1 v) (hb : Below w.heap.size w w') : TollAt w' g0 g1 v :=
  ⟨(hb.block g0 h.lt0).trans h.z, fun j hj => (hb.cell (p := ⟨g1, j, none⟩) h.lt1).trans (h.c j hj), (hb.frozen (p := ⟨g1, 7, none⟩) h.lt1).trans h.f⟩

theorem TollAt.set {w : World} {g0 g1 : Nat} {v : Value} (h : TollAt w g0 g1 v) (hne : g0 ≠ g1) (u : Value) : TollAt (w.setCell ⟨g1, 7, none⟩ u) g0 g1 u := by
  refine ⟨(Below.heap_setCell _ _ _ _ hne).trans h.z, fun j hj => ?_, by rw [World.frozen?_setCell]; exact h.f⟩
  by_cases h7 : j = 7
  · subst h7; exact World.cell?_setCell_same _ _ _ h.c7
  · rw [World.cell?_setCell_other _ _ _ _ (by intro e; injection e with _ e2; omega), h.c j hj]
    match j, hj, h7 with
    | 0, _, _ => rfl
    | 1, _, _ => rfl
    | 2, _, _ => rfl
    | 3, _, _ => rfl
    | 4, _, _ => rfl
    | 5, _, _ => rfl
    | 6, _, _ => rfl
    | 8, _, _ => rfl
    | 9, _, _ => rfl

set_option maxRecDepth 100000 in
set_option maxHeartbeats 1000000 in
theorem tollStart_any (w : World) :
    Calls Tryd.prog 51 #[] w fun e w' => ∃ v, e = .returned (.agg (tollC v)) ∧ v.oneCell' = true ∧ Below w.heap.size w w' := by
  obtain ⟨i0, hi, hz0, hz1, hz2⟩ := info_parts Tryd.infoHs
  go_enter Tryd.func51, Tryd.ntmps51
  go_wp2_with fail
  refine (gateStart_any _).mono ?_; rintro e w1 ⟨rfl, h1⟩
  unfold gateV
  have s1 : w.heap.size < w1.heap.size := by have := h1.size; simp at this; omega
  have b1 : Below w.heap.size w w1 := ((Below.refl _ _).alloc (Nat.le_refl _) _).trans (h1.mono (by simp))
  have z1 : w1.heap[w.heap.size]? = some (.cells tollZ 93 (0, 0)) := (h1.block w.heap.size (by simp)).trans (heap_alloc_new _ _)
  have HB1 := hide b1
  have HZ1 := hide z1
  clear h1 b1 z1
  go_wp2_with fail
  go_loopw [2] (fun i wr => ∃ (k : Nat) (v : Value) (L : List Value), k ≤ 3 ∧ i = .int .i64 k ∧ Below w.heap.size w wr ∧ TollAt wr w.heap.size w1.heap.size v ∧ wr.ownsRow (w1.heap.size + 1) 113 6 v k L) (fun i _ => 3 - (intOf i).toNat)
  case atStart =>
    refine ⟨0, .slice none 0 0, [], by omega, rfl, (unhide HB1).alloc (unhide HB1).size _, ⟨?_, fun j hj => ?_, ?_⟩, ⟨rfl, .inl ⟨rfl, rfl⟩⟩⟩
    · rw [heap_alloc_old _ _ s1]; exact unhide HZ1
    · rw [World.cell?_alloc_at _ _ _ _ rfl]; rfl
    · exact World.frozen?_alloc_at _ _ _ _ rfl
  case round =>
    obtain ⟨k, v, L, hk, rfl, hbr, ht, hown⟩ := hrel
    have l1 := ht.lt1
    by_cases hlt : k < 3
    · have c7 := ht.c7
      have f7 := ht.f
      have HT := hide ht
      have HO := hide hown
      have HBR := hide hbr
      clear ht hown hbr
      go_wp2_with fail
      go_region_law (first
        | (refine step_append_lies _ (by rfl) (.tmp 10) (.tmp 13) 89 (by rfl) (w1.heap.size + 1) 113 i0 (.agg #[.int .i64 0, .bool false, .slice none 0 0, .int .i64 0, .slice none 0 0, .slice none 0 0]) 6 96 Tryd.underlying89 hi hz0 hz1 hz2 rfl (by decide) v k L (by rfl) (by exact (unhide HO2).alloc _) ⟨w2.heap.size, 0, none⟩ 1 1 [.int .i64 k, .bool true, .slice none 0 0, .int .i64 0, .slice a n c, .slice none 0 0] (by rfl) rfl (unhide hnews) (by simp [Value.oneCell']) (by decide) (by unfold maxLen; omega) (by omega) (by simp; omega) (w2.heap.size + 1) (by simp) ?_; intro g cp w3 hown3 hgrow hat hlt3; have hq : ∀ q, v.ownBlock = some q → w1.heap.size + 1 ≤ q := fun q hq => ((unhide HO2).lt q hq).1; have HT3 : Hid (TollAt w3 w.heap.size w1.heap.size v) := ((unhide HT2).kept ((Below.refl _ _).alloc (Nat.le_refl _) _)).far hgrow (fun e => by have := hq _ e.symm; omega) (fun e => by have := hq _ e.symm; omega); have c73 := (unhide HT3).c7; have f73 := (unhide HT3).f)
        | (go_simp; go_at_call 60; refine (houseStart_any k _ (by omega) (by omega)).mono ?_; rintro e w2 ⟨a, n, c, rfl, h2⟩; have h2' : Below wr.heap.size wr w2 := ((Below.refl _ _).drew).trans h2; have HT2 : Hid (TollAt w2 w.heap.size w1.heap.size v) := (unhide HT).kept h2'; have c72 := (unhide HT2).c7; have s2 := h2'.size; have c72b : ∀ o, (w2.alloc o).cell? ⟨w1.heap.size, 7, none⟩ = some v := fun o => (World.cell?_alloc_past o w1.heap.size 7 (by omega)).trans c72; have HO2 : Hid (w2.ownsRow (w1.heap.size + 1) 113 6 v k L) := ownsRow_below (unhide HO) h2'; have hnews : Hid (∀ (j : Nat) (u : Value), ([.int .i64 k, .bool true, .slice none 0 0, .int .i64 0, .slice a n c, .slice none 0 0] : List Value)[j]? = some u → (w2.alloc (.cells #[.int .i64 k, .bool true, .slice none 0 0, .int .i64 0, .slice a n c, .slice none 0 0] 113)).cell? ((⟨w2.heap.size, 0, none⟩ : Addr).add j) = some u) := World.news_of_block (heap_alloc_new _ _); unfold houseV))
      all_goals (try go_wp2)
      all_goals go_roundw
      all_goals first
        | (show ∃ (k' : Nat) (v : Value) (L : List Value), _; have bw := unhide HBR; have b2 := bw.trans (h2'.mono bw.size); have b3 := Below.grown (b2.alloc b2.size _) hgrow (by simp; omega) (fun q hq' => by have := hq q hq'; omega); exact ⟨k + 1, _, _, hlt, by go_num, Below.setCell b3 (Nat.le_of_lt s1) _, (unhide HT3).set (by omega) _, ownsRow_setCell_below hown3 (by show w1.heap.size < _; omega) _⟩)
        | (simp [intOf]; omega)
    · have hv : v.oneCell' = true := by
        obtain ⟨_, ⟨rfl, _⟩ | ⟨g, cap, cur, rfl, _⟩⟩ := hown <;> rfl
      have k0 : wr.cell? ⟨w1.heap.size, 0, none⟩ = some (.int .i64 0) := ht.c 0 (by omega)
      have k1 : wr.cell? ⟨w1.heap.size, 1, none⟩ = some (.bool true) := ht.c 1 (by omega)
      have k2 : wr.cell? ⟨w1.heap.size, 2, none⟩ = some (.int .i64 1) := ht.c 2 (by omega)
      have k3 : wr.cell? ⟨w1.heap.size, 3, none⟩ = some (.int .i64 1) := ht.c 3 (by omega)
      have k4 : wr.cell? ⟨w1.heap.size, 4, none⟩ = some (.slice none 0 0) := ht.c 4 (by omega)
      have k5 : wr.cell? ⟨w1.heap.size, 5, none⟩ = some (.slice none 0 0) := ht.c 5 (by omega)
      have k6 : wr.cell? ⟨w1.heap.size, 6, none⟩ = some (.slice none 0 0) := ht.c 6 (by omega)
      have k7 : wr.cell? ⟨w1.heap.size, 7, none⟩ = some (v) := ht.c 7 (by omega)
      have k8 : wr.cell? ⟨w1.heap.size, 8, none⟩ = some (.slice none 0 0) := ht.c 8 (by omega)
      have k9 : wr.cell? ⟨w1.heap.size, 9, none⟩ = some (.slice none 0 0) := ht.c 9 (by omega)
      have HZ := hide ht.z
      have HBR := hide hbr
      have HV := hide hv
      clear ht hown hbr hv
      go_wp2_with (refine wpList_store_row rfl 93 _ _ rfl w.heap.size _ rfl rfl 93 _ (unhide HZ) (by kernel_rfl) rfl (by simp [Value.oneCell']; exact unhide HV) ?_)
      refine bodyPost_ret (results_cell_row rfl _ _ w.heap.size _ _ _ _ rfl (setRow_heap _ _ _ _ _ _ (unhide HZ)) Tryd.underlying93 rfl (by kernel_rfl)) rfl ?_
      exact ⟨v, rfl, unhide HV, below_setRow (unhide HBR) (Nat.le_refl _) _⟩

end Go.Proofs.YtmikdkdgpomiaaaDoor
