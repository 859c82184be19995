/- slices.Insert of one hold ahead of others. -/
import Derived.Test.YtoojnhodjkpecaaLkI9
import Derived.Laws.Externs
namespace Go.Proofs.Ytoojnhodjkpecaa
open Go.RowKit Go.Shelf

set_option maxRecDepth 100000 in
set_option maxHeartbeats 2000000 in
theorem insert_shift (g N c i : Nat) (F : List Value) (x : Hd) (base vb : Nat) (w : World) (cur : Array Value) (hrow : w.heap[g]? = some (.cells cur 27 (0, 0))) (hcs : cur.size = c * 4) (htk : cur.toList.take (N * 4) = F) (hFl : F.length = N * 4) (h1F : ∀ u ∈ F, u.oneCell' = true) (hb : base ≤ g) (hi : i < N) (hN : N ≤ 1000) (hc : N + 1 ≤ c) (hc2 : c ≤ maxLen) (hbx : Bx w vb 27 #[.int .i64 x.stamp, .int .i64 x.try_, .bool x.share, .bool x.firm]) (hne : vb ≠ g) :
    Calls Try.prog 75 #[.slice (some ⟨g, 0, none⟩) N c, .int .i64 i, .slice (some ⟨vb, 0, none⟩) 1 1] w fun e w' => e = .returned (.slice (some ⟨g, 0, none⟩) (N + 1) c) ∧ w'.ownsRow base 27 4 (.slice (some ⟨g, 0, none⟩) (N + 1) c) (N + 1) (F.take (i * 4) ++ ([.int .i64 x.stamp, .int .i64 x.try_, .bool x.share, .bool x.firm] ++ F.drop (i * 4))) ∧ w.grownBy w' (some g) := by
  unfold maxLen at hc2
  obtain ⟨i0, hi0, hz0, hz1, hz2⟩ := info_parts Try.infoHd
  have hsz : (Try.prog.info? 27).map (·.size) = some 4 := by rw [hi0]; simp [hz1]
  have hov : ∀ lb cb (W : World), W.heap[vb]? = w.heap[vb]? → W.heap[g]? = w.heap[g]? → (callFunc 76 #[.slice (some ⟨vb, 0, none⟩) 1 1, .slice (some ⟨g, (i + 1) * 4, none⟩) lb cb]).run Try.prog W = .ok (.value (.bool false)) W := fun lb cb W h1 h2 => by
    rw [run_callFunc_extern Try.func76 (by kernel_rfl) (by kernel_rfl) (by kernel_rfl) (e := Extern.SlicesOverlaps.overlaps #[23, 23] #[4]) (by kernel_rfl),
      Lib.run_overlaps_apart W 23 4 27 Try.underlying23 4 (fun w => by simp [sizeOf, typeInfo, hi0, hz1]) ⟨vb, 0, none⟩ ⟨g, (i + 1) * 4, none⟩ 1 1 lb cb hne 27 27 4 (c * 4) (by simp [World.shape?, h1, hbx.row]) (by simp [World.shape?, h2, hrow, hcs]) (by omega) (by simp [World.frozen?, h1, hbx.row]) (by simp [World.frozen?, h1, hbx.row])]
    rfl
  obtain ⟨vs, hvs⟩ : ∃ vs : List Value, vs = [.int .i64 x.stamp, .int .i64 x.try_, .bool x.share, .bool x.firm] := ⟨_, rfl⟩
  have hvl : vs.length = 4 := by rw [hvs]; rfl
  rw [← hvs]
  have hFd : (F.drop (i * 4)).length = (N - i) * 4 := by rw [List.length_drop, hFl]; omega
  have hcell : ∀ j v, F[j]? = some v → w.cell? ⟨g, j, none⟩ = some v := fun j v hj => by
    rw [cell_of_row w g j cur 27 (0, 0) hrow]
    have hjl : j < N * 4 := by rw [← hFl]; exact (List.getElem?_eq_some_iff.1 hj).1
    rw [← htk, List.getElem?_take_of_lt hjl] at hj
    simpa using hj
  obtain ⟨mid, hmid⟩ : ∃ mid, mid = cur.toList.take ((i + 1) * 4) ++ F.drop (i * 4) ++ cur.toList.drop ((i + 1) * 4 + (F.drop (i * 4)).length) := ⟨_, rfl⟩
  have hsp := splice_ins cur.toList F vs (i * 4) 4 hvl (by omega) (by rw [hFl]; exact htk) (by simp; omega)
  rw [show i * 4 + 4 = (i + 1) * 4 by omega] at hsp
  simp only [← hmid] at hsp
  have hcp1 : ∀ ty dc sc (W : World), W.heap[g]? = w.heap[g]? → (Builtin.copy_ #[23, 23] ty #[.slice (some ⟨g, (i + 1) * 4, none⟩) (N - i) dc, .slice (some ⟨g, i * 4, none⟩) (N + 1 - i) sc]).run Try.prog W = .ok (goInt (Nat.min (N + 1 - i) (N - i))) (W.setRow g mid.toArray) := fun ty dc sc W hW => by
    rw [hmid]
    exact run_copy_rowK W _ _ ty 27 g ((i + 1) * 4) (N - i) dc ⟨g, i * 4, none⟩ (N + 1 - i) sc 4 cur 27 (F.drop (i * 4)) Try.underlying23 hsz (by rw [hW]; exact hrow) (by rw [hFd]; congr 1; simp only [Nat.min_def]; split <;> omega)
      (fun j v hj => by
        rw [List.getElem?_drop] at hj
        have := hcell _ v hj
        rw [show (⟨g, i * 4, none⟩ : Addr).add j = ⟨g, i * 4 + j, none⟩ from by unfold Addr.add; split <;> simp_all]
        rw [cell_of_row W g _ cur 27 (0, 0) (by rw [hW]; exact hrow)]
        rwa [cell_of_row w g _ cur 27 (0, 0) hrow] at this)
      (by rw [hFd, hcs]; omega) (fun v hv => h1F v (List.mem_of_mem_drop hv))
  have hcp2 : ∀ ty dc (W : World), W.heap[g]? = some (.cells mid.toArray 27 (0, 0)) → W.heap[vb]? = w.heap[vb]? → (Builtin.copy_ #[23, 23] ty #[.slice (some ⟨g, i * 4, none⟩) (N + 1 - i) dc, .slice (some ⟨vb, 0, none⟩) 1 1]).run Try.prog W = .ok (goInt (Nat.min 1 (N + 1 - i))) (W.setRow g (mid.take (i * 4) ++ vs ++ mid.drop (i * 4 + 4)).toArray) := fun ty dc W hW hV => by
    have := run_copy_rowK (P := Try.prog) W 23 23 ty 27 g (i * 4) (N + 1 - i) dc ⟨vb, 0, none⟩ 1 1 4 mid.toArray 27 vs Try.underlying23 hsz hW (by rw [hvl]; simp only [Nat.min_def]; split <;> omega)
      (fun j v hj => by
        rw [show (⟨vb, 0, none⟩ : Addr).add j = ⟨vb, j, none⟩ from by unfold Addr.add; split <;> simp_all]
        rw [cell_of_row W vb j #[.int .i64 x.stamp, .int .i64 x.try_, .bool x.share, .bool x.firm] 27 (0, 0) (by rw [hV]; exact hbx.row)]
        rw [hvs] at hj; simpa using hj)
      (by simp; rw [hsp.2.2, hvl]; simp; omega) (by rw [hvs]; simp [Value.oneCell'])
    simpa [hvl] using this
  have hgr : ∀ A B : Array Value, w.grownBy (((w.drew.setRow g A).drew).setRow g B) (some g) ∧ w.grownBy ((w.drew.setRow g A).setRow g B) (some g) := fun A B => ⟨grownBy_trans (grownBy_trans (grownBy_drew (grownBy_refl w (some g))) (grownBy_drew (grownBy_setRow _ g A))) (grownBy_setRow _ g B), grownBy_trans (grownBy_trans (grownBy_drew (grownBy_refl w (some g))) (grownBy_setRow _ g A)) (grownBy_setRow _ g B)⟩
  have hown : ∀ W : World, W.heap[g]? = some (.cells (mid.take (i * 4) ++ vs ++ mid.drop (i * 4 + 4)).toArray 27 (0, 0)) → W.ownsRow base 27 4 (.slice (some ⟨g, 0, none⟩) (N + 1) c) (N + 1) (F.take (i * 4) ++ (vs ++ F.drop (i * 4))) := fun W hW => by
    refine ⟨by simp [hFl, hvl]; omega, .inr ⟨g, c, _, rfl, hb, hW, hc, by unfold maxLen; omega, ?_, ?_⟩⟩
    · have := hsp.2.1
      rw [hvl] at this
      simp at this ⊢; omega
    · have := hsp.1
      rw [hFl, hvl] at this
      rw [show (N + 1) * 4 = N * 4 + 4 by omega]
      simpa using this
  have hd : ∀ A : Array Value, (w.drew.setRow g A).heap[g]? = some (.cells A 27 (0, 0)) := fun A => setRow_heap w.drew g cur A 27 _ hrow
  have hdv : ∀ A : Array Value, (w.drew.setRow g A).heap[vb]? = w.heap[vb]? := fun A => setRow_other w.drew g vb A hne
  have HCP1 := hide hcp1
  have HCP2 := hide hcp2
  have HGR := hide hgr
  have HOW := hide hown
  have HHD := hide hd
  have HDV := hide hdv
  have HOV := hide hov
  have HROW := hide hrow
  clear hcp1 hcp2 hgr hown hd hdv hov hsp hcell hFd hrow hcs htk hFl h1F hmid hbx hvs hvl
  have hiI : (i : Int) < (N : Int) := by omega
  have hi00 : (0 : Int) ≤ (i : Int) := by omega
  have hz1' : ((i : Int) == (N : Int)) = false := by simp; omega
  have hgt : ¬ ((c : Int) < (N : Int) + 1) := by omega
  have hb2 : ¬ (c = i + 1) := by omega
  have hb4 : ¬ (c = i) := by omega
  have hle : (N : Int) + 1 ≤ (c : Int) := by omega
  have hw1 : IntKind.i64.wrap ((i : Int) + 1) = (i : Int) + 1 := by rw [IntKind.wrap_i64]; omega
  have hb1 : (0 : Int) ≤ (i : Int) + 1 := by omega
  have hl1 : (i : Int) + 1 ≤ (N : Int) + 1 := by omega
  have htn : ((i : Int) + 1).toNat = i + 1 := by omega
  have hb3 : (i : Int) ≤ (N : Int) + 1 := by omega
  have hb5 : i ≤ N := by omega
  go_enter Try.func75, Try.ntmps75
  go_wp2_with (rw [unhide HOV _ _ _ rfl rfl])
  go_region_law (refine step_copy_runK (by rfl) (.tmp 73) (.tmp 76) 23 23 (by rfl) (.slice (some ⟨g, (i + 1) * 4, none⟩) (N - i) (c - (i + 1))) (.slice (some ⟨g, i * 4, none⟩) (N + 1 - i) (c - i)) (by simp [Act.eval, Act.put]) (by simp [Act.eval, Act.put]) (unhide HCP1 _ (c - (i + 1)) (c - i) w.drew rfl) ?_)
  go_wp2_with fail
  rw [unhide HCP2 _ _ _ (unhide HHD mid.toArray) (unhide HDV mid.toArray)]
  go_wp2_with fail
  go_ret
  refine ⟨rfl, ?_, ?_⟩
  · refine unhide HOW _ ?_
    rw [List.append_assoc]
    exact setRow_heap _ g _ _ 27 _ (unhide HHD _)
  · first | exact (unhide HGR _ _).1 | exact (unhide HGR _ _).2

set_option maxRecDepth 100000 in
set_option maxHeartbeats 2000000 in
theorem insert_grow (g N i : Nat) (F : List Value) (x : Hd) (vb : Nat) (w : World) (cur : Array Value) (hrow : w.heap[g]? = some (.cells cur 27 (0, 0))) (htk : cur.toList.take (N * 4) = F) (hFl : F.length = N * 4) (h1F : ∀ u ∈ F, u.oneCell' = true) (hi : i < N) (hN : N ≤ 1000) (hbx : Bx w vb 27 #[.int .i64 x.stamp, .int .i64 x.try_, .bool x.share, .bool x.firm]) :
    Calls Try.prog 75 #[.slice (some ⟨g, 0, none⟩) N N, .int .i64 i, .slice (some ⟨vb, 0, none⟩) 1 1] w fun e w' => ∃ G, e = .returned (.slice (some ⟨w.heap.size, 0, none⟩) (N + 1) G) ∧ w'.ownsRow w.heap.size 27 4 (.slice (some ⟨w.heap.size, 0, none⟩) (N + 1) G) (N + 1) (F.take (i * 4) ++ ([.int .i64 x.stamp, .int .i64 x.try_, .bool x.share, .bool x.firm] ++ F.drop (i * 4))) ∧ Below w.heap.size w w' := by
  obtain ⟨i0, hi0, hz0, hz1, hz2⟩ := info_parts Try.infoHd
  have hsz : (Try.prog.info? 27).map (·.size) = some 4 := by rw [hi0]; simp [hz1]
  obtain ⟨vs, hvs⟩ : ∃ vs : List Value, vs = [.int .i64 x.stamp, .int .i64 x.try_, .bool x.share, .bool x.firm] := ⟨_, rfl⟩
  have hvl : vs.length = 4 := by rw [hvs]; rfl
  rw [← hvs]
  have hgl : g < w.heap.size := (Array.getElem?_eq_some_iff.1 hrow).1
  have hvl' := hbx.lt
  have hFd : (F.drop (i * 4)).length = (N - i) * 4 := by rw [List.length_drop, hFl]; omega
  have hFt : (F.take (i * 4)).length = i * 4 := by rw [List.length_take, hFl]; omega
  have hcell : ∀ (W : World), W.heap[g]? = w.heap[g]? → ∀ j v, F[j]? = some v → W.cell? ⟨g, j, none⟩ = some v := fun W hW j v hj => by
    rw [cell_of_row W g j cur 27 (0, 0) (by rw [hW]; exact hrow)]
    have hjl : j < N * 4 := by rw [← hFl]; exact (List.getElem?_eq_some_iff.1 hj).1
    rw [← htk, List.getElem?_take_of_lt hjl] at hj
    simpa using hj
  obtain ⟨G, hG⟩ : ∃ G, G = grownCap w (N + 1) N 27 := ⟨_, rfl⟩
  have hGn : N + 1 ≤ G := by rw [hG]; exact grownCap_ge w _ _ _
  have hG63 : G ≤ maxLen := by rw [hG]; exact grownCap_le_maxLen w (N + 1) N 27 (by unfold maxLen; omega)
  obtain ⟨ROW, hROW⟩ : ∃ ROW : Array Value, ROW = (F.take (i * 4)).toArray ++ Builtin.zeroCells (Value.agg #[.int .i64 0, .int .i64 0, .bool false, .bool false]).cells (N + 1 - i) ++ Builtin.zeroCells (Value.agg #[.int .i64 0, .int .i64 0, .bool false, .bool false]).cells (G - (N + 1)) := ⟨_, rfl⟩
  have hRs : ROW.size = G * 4 := by
    rw [hROW]
    simp [Builtin.zeroCells, Value.cells, hFl]
    omega
  have hRt : ROW.toList.take (i * 4) = F.take (i * 4) := by
    have e : ROW.toList = F.take (i * 4) ++ ((Builtin.zeroCells (Value.agg #[.int .i64 0, .int .i64 0, .bool false, .bool false]).cells (N + 1 - i)).toList ++ (Builtin.zeroCells (Value.agg #[.int .i64 0, .int .i64 0, .bool false, .bool false]).cells (G - (N + 1))).toList) := by rw [hROW]; simp
    rw [e, List.take_append_of_le_length (by rw [hFt]; omega), List.take_of_length_le (by rw [hFt]; omega)]
  have hold : (Builtin.firstCells i0.size i (.slice (some ⟨g, 0, none⟩) i N)).run Try.prog w.drew = .ok (F.take (i * 4)).toArray w.drew := by
    rw [hz1]
    exact run_firstCells_some w.drew 4 i ⟨g, 0, none⟩ i N (F.take (i * 4)) hFt (fun j v hj => by
      rw [show (⟨g, 0, none⟩ : Addr).add j = ⟨g, j, none⟩ from by unfold Addr.add; split <;> simp_all]
      rw [List.getElem?_take] at hj
      split at hj
      · exact hcell w.drew rfl j v hj
      · cases hj)
  have hrz : ∀ ty, (Builtin.append_ #[23, 3] ty #[.slice (some ⟨g, 0, none⟩) i N, .int .i64 ((N : Int) + 1 - (i : Int))]).run Try.prog w = .ok (.slice (some ⟨w.heap.size, 0, none⟩) (N + 1) G) (w.drew.alloc (.cells ROW 27)) := fun ty => by
    have h := Lib.run_append_grow_zeros w 23 3 ty 27 i0 _ .i64 .i64 Try.underlying23 Try.underlying3 hi0 hz0 (some ⟨g, 0, none⟩) i N (F.take (i * 4)) hold (N + 1 - i) (by omega) (by omega) (by omega) (by omega) (by rw [hz2]; omega) (by rw [hz2, show i + (N + 1 - i) = N + 1 by omega]; exact growslice_fits (by omega) (by omega))
    rw [show i + (N + 1 - i) = N + 1 by omega, ← hG, ← hROW] at h
    rw [show (N : Int) + 1 - (i : Int) = ((N + 1 - i : Nat) : Int) by omega]
    exact h
  obtain ⟨R1, hR1⟩ : ∃ R1, R1 = ROW.toList.take (i * 4) ++ vs ++ ROW.toList.drop (i * 4 + vs.length) := ⟨_, rfl⟩
  have hR1l : R1.length = G * 4 := by rw [hR1, ← hRs]; simp [hvl]; omega
  have hcpA : ∀ (W : World), W.heap[w.heap.size]? = some (.cells ROW 27 (0, 0)) → W.heap[vb]? = w.heap[vb]? → ∀ ty dc, (Builtin.copy_ #[23, 23] ty #[.slice (some ⟨w.heap.size, i * 4, none⟩) (N + 1 - i) dc, .slice (some ⟨vb, 0, none⟩) 1 1]).run Try.prog W = .ok (goInt (Nat.min 1 (N + 1 - i))) (W.setRow w.heap.size R1.toArray) := fun W hW hV ty dc => by
    rw [hR1]
    exact run_copy_rowK (P := Try.prog) W 23 23 ty 27 w.heap.size (i * 4) (N + 1 - i) dc ⟨vb, 0, none⟩ 1 1 4 ROW 27 vs Try.underlying23 hsz hW (by rw [hvl]; simp only [Nat.min_def]; split <;> omega)
      (fun j v hj => by
        rw [show (⟨vb, 0, none⟩ : Addr).add j = ⟨vb, j, none⟩ from by unfold Addr.add; split <;> simp_all]
        rw [cell_of_row W vb j #[.int .i64 x.stamp, .int .i64 x.try_, .bool x.share, .bool x.firm] 27 (0, 0) (by rw [hV]; exact hbx.row)]
        rw [hvs] at hj; simpa using hj)
      (by rw [hvl, hRs]; omega) (by rw [hvs]; simp [Value.oneCell'])
  obtain ⟨R2, hR2⟩ : ∃ R2, R2 = R1.take ((i + 1) * 4) ++ F.drop (i * 4) ++ R1.drop ((i + 1) * 4 + (F.drop (i * 4)).length) := ⟨_, rfl⟩
  have hcpB : ∀ (W : World), W.heap[w.heap.size]? = some (.cells R1.toArray 27 (0, 0)) → W.heap[g]? = w.heap[g]? → ∀ ty dc sc, (Builtin.copy_ #[23, 23] ty #[.slice (some ⟨w.heap.size, (i + 1) * 4, none⟩) (N - i) dc, .slice (some ⟨g, i * 4, none⟩) (N - i) sc]).run Try.prog W = .ok (goInt (Nat.min (N - i) (N - i))) (W.setRow w.heap.size R2.toArray) := fun W hW hV ty dc sc => by
    rw [hR2]
    exact run_copy_rowK (P := Try.prog) W 23 23 ty 27 w.heap.size ((i + 1) * 4) (N - i) dc ⟨g, i * 4, none⟩ (N - i) sc 4 R1.toArray 27 (F.drop (i * 4)) Try.underlying23 hsz hW (by rw [hFd]; congr 1; simp only [Nat.min_def]; split <;> omega)
      (fun j v hj => by
        rw [List.getElem?_drop] at hj
        rw [show (⟨g, i * 4, none⟩ : Addr).add j = ⟨g, i * 4 + j, none⟩ from by unfold Addr.add; split <;> simp_all]
        exact hcell W hV _ v hj)
      (by simp only [List.size_toArray]; rw [hFd, hR1l]; omega) (fun v hv => h1F v (List.mem_of_mem_drop hv))
  have hR2t : R2.toArray.toList.take ((N + 1) * 4) = F.take (i * 4) ++ (vs ++ F.drop (i * 4)) ∧ R2.length = G * 4 := by
    have e1 : R1.take ((i + 1) * 4) = F.take (i * 4) ++ vs := by
      rw [hR1, hRt, List.append_assoc, ← List.append_assoc, List.take_append_of_le_length (by simp [hvl, hFl]; omega), List.take_of_length_le (by simp [hvl, hFl]; omega)]
    constructor
    · rw [hR2, e1]
      simp only [List.append_assoc]
      rw [← List.append_assoc vs, ← List.append_assoc (F.take (i * 4))]
      rw [List.take_append_of_le_length (by simp [hvl, hFl]; omega), List.take_of_length_le (by simp [hvl, hFl]; omega)]
    · rw [hR2]; simp [hR1l, hFl]; omega
  have hown : ∀ W : World, W.heap[w.heap.size]? = some (.cells R2.toArray 27 (0, 0)) → W.ownsRow w.heap.size 27 4 (.slice (some ⟨w.heap.size, 0, none⟩) (N + 1) G) (N + 1) (F.take (i * 4) ++ (vs ++ F.drop (i * 4))) := fun W hW =>
    ⟨by simp [hFl, hvl]; omega, .inr ⟨w.heap.size, G, _, rfl, Nat.le_refl _, hW, hGn, hG63, by simpa using hR2t.2, hR2t.1⟩⟩
  have HCPA := hide hcpA
  have HCPB := hide hcpB
  have HOW := hide hown
  have HRZ := hide hrz
  unfold maxLen at hG63
  clear hcpA hcpB hown hrz hR2t hcell hold hRt hRs hR1 hR2 hROW hG hFd hFt htk hFl h1F hbx hvs hvl hrow hsz hi0 hz0 hz1 hz2 i0 hR1l
  have hiI : (i : Int) < (N : Int) := by omega
  have hi00 : (0 : Int) ≤ (i : Int) := by omega
  have hz1' : ((i : Int) == (N : Int)) = false := by simp; omega
  have hgt : ((N : Int) < (N : Int) + 1) := by omega
  have hw1 : IntKind.i64.wrap ((i : Int) + 1) = (i : Int) + 1 := by rw [IntKind.wrap_i64]; omega
  have hb1 : (0 : Int) ≤ (i : Int) + 1 := by omega
  have hl1 : (i : Int) + 1 ≤ (N : Int) + 1 := by omega
  have htn : ((i : Int) + 1).toNat = i + 1 := by omega
  have hb3 : (i : Int) ≤ (N : Int) := by omega
  have hb3' : (i : Int) ≤ (N : Int) + 1 := by omega
  have hb5 : i ≤ N := by omega
  have hGi : ¬ (G = i) := by omega
  have hGim : ¬ (G = i + 1) := by omega
  have hci : ¬ (N = i) := by omega
  have hne1 : vb ≠ w.heap.size := by omega
  have hne2 : g ≠ w.heap.size := by omega
  have hh1 : (w.drew.alloc (.cells ROW 27)).heap[w.heap.size]? = some (.cells ROW 27 (0, 0)) := heap_alloc_new w.drew _
  have hh2 : (w.drew.alloc (.cells ROW 27)).heap[vb]? = w.heap[vb]? := heap_alloc_old w.drew _ hvl'
  have hh3 : (w.drew.alloc (.cells ROW 27)).heap[g]? = w.heap[g]? := heap_alloc_old w.drew _ hgl
  have HB1 : Hid (Below w.heap.size w (w.drew.alloc (.cells ROW 27))) := ((Below.refl _ _).drew).alloc (by simp) _
  have HH1 := hide hh1
  have HH2 := hide hh2
  have HH3 := hide hh3
  clear hh1 hh2 hh3
  go_enter Try.func75, Try.ntmps75
  go_wp2_with (at_builtin; refine Lib.wpList_append_run _ rfl _ _ _ _ rfl _ _ rfl rfl _ _ (unhide HRZ _) ?_; obtain ⟨W1, hW1⟩ : ∃ W1, W1 = w.drew.alloc (.cells ROW 27) := ⟨_, rfl⟩; rw [← hW1] at HH1 HH2 HH3 HB1 ⊢; clear hW1)
  rw [unhide HCPA _ (unhide HH1) (unhide HH2)]
  have HK1 : Hid ((W1.setRow w.heap.size R1.toArray).heap[w.heap.size]? = some (.cells R1.toArray 27 (0, 0))) := setRow_heap W1 w.heap.size _ _ 27 _ (unhide HH1)
  have HK2 : Hid ((W1.setRow w.heap.size R1.toArray).heap[g]? = w.heap[g]?) := (setRow_other W1 w.heap.size g _ hne2).trans (unhide HH3)
  have HB2 : Hid (Below w.heap.size w (W1.setRow w.heap.size R1.toArray)) := Below.grown (unhide HB1) (grownBy_setRow W1 w.heap.size R1.toArray) (unhide HB1).size (fun q hq => by simp at hq; omega)
  obtain ⟨W2, hW2⟩ : ∃ W2, W2 = W1.setRow w.heap.size R1.toArray := ⟨_, rfl⟩
  rw [← hW2] at HK1 HK2 HB2 ⊢
  clear hW2
  go_wp2_with fail
  go_region_law (refine step_copy_runK (by rfl) (.tmp 50) (.tmp 53) 23 23 (by rfl) (.slice (some ⟨w.heap.size, (i + 1) * 4, none⟩) (N - i) (G - (i + 1))) (.slice (some ⟨g, i * 4, none⟩) (N - i) (N - i)) (by simp [Act.eval, Act.put]) (by simp [Act.eval, Act.put]) (unhide HCPB W2.drew (unhide HK1) (unhide HK2) _ (G - (i + 1)) (N - i)) ?_)
  go_wp2_with fail
  go_ret
  refine ⟨G, rfl, ?_, ?_⟩
  · exact unhide HOW _ (setRow_heap W2.drew w.heap.size _ _ 27 _ (unhide HK1))
  · exact Below.grown ((unhide HB2).drew) (grownBy_setRow W2.drew w.heap.size R2.toArray) (unhide HB2).size (fun q hq => by simp at hq; omega)

theorem insert_any (v : Value) (hs : List Hd) (i : Nat) (x : Hd) (base vb : Nat) (w : World) (hown : w.ownsRow base 27 4 v hs.length (hs.flatMap hdE)) (hi : i ≤ hs.length) (hn : hs.length ≤ 1000) (hbx : Bx w vb 27 #[.int .i64 x.stamp, .int .i64 x.try_, .bool x.share, .bool x.firm]) (hbase : base ≤ w.heap.size) (hne : v.ownBlock ≠ some vb) :
    Calls Try.prog 75 #[v, .int .i64 i, .slice (some ⟨vb, 0, none⟩) 1 1] w fun e w' => ∃ r, e = .returned r ∧ w'.ownsRow base 27 4 r (insAt hs i x).length ((insAt hs i x).flatMap hdE) ∧ w.grownBy w' v.ownBlock ∧ (r.ownBlock = v.ownBlock ∨ r.ownBlock = some w.heap.size) := by
  have hlen : (insAt hs i x).length = hs.length + 1 := by simp [insAt]; omega
  by_cases h : i = hs.length
  · subst h
    have e : insAt hs hs.length x = hs ++ [x] := by simp [insAt]
    rw [e]
    exact insert_end v hs x base vb w hown hn hbx hbase
  · rw [hlen, flat_ins hdE_len]
    rcases hown.2 with ⟨rfl, h0⟩ | ⟨g, c, cur, rfl, hbg, hrow, hc1, hc2, hcs, htk⟩
    · omega
    · have hFl := flat_len hdE_len hs
      by_cases hc : hs.length + 1 ≤ c
      · refine (insert_shift g hs.length c i _ x base vb w cur hrow hcs htk hFl (hd_one hs) hbg (by omega) hn hc hc2 hbx (fun e => hne (by simp [Value.ownBlock, e]))).mono ?_
        rintro e w' ⟨rfl, h1, h2⟩
        exact ⟨_, rfl, h1, h2, .inl rfl⟩
      · obtain rfl : c = hs.length := by omega
        refine (insert_grow g hs.length i _ x vb w cur hrow htk hFl (hd_one hs) (by omega) hn hbx).mono ?_
        rintro e w' ⟨G, rfl, h1, h2⟩
        exact ⟨_, rfl, ownsRow_base h1 hbase, ⟨h2.os, h2.tape, h2.output, h2.size, fun k hk _ => h2.block k hk⟩, .inr rfl⟩

end Go.Proofs.Ytoojnhodjkpecaa
