/- How a lock, a stamp and a try are drawn. -/
import Derived.Test.YtoojnhodjkpecaaDrL5
namespace Go.Proofs.Ytoojnhodjkpecaa
open Go.RowKit

theorem RowAt.setFresh {α : Type} {enc : α → List Value} {w w0 : World} {v : Value} {xs : List α} {g : Nat} (h : RowAt enc w v xs) (h0 : RowAt enc w0 v xs) (hg : w0.heap.size ≤ g) (j : Nat) (u : Value) : RowAt enc (w.setCell ⟨g, j, none⟩ u) v xs := by
  obtain ⟨a, cap, rfl, h1, h2, h3⟩ := h
  refine ⟨a, cap, rfl, h1, h2, ?_⟩
  rcases h3 with h3 | ⟨b, off, rfl, hc⟩
  · exact .inl h3
  · refine .inr ⟨b, off, rfl, fun j' u' hu => ?_⟩
    obtain ⟨a', cap', he, _, _, h3'⟩ := h0
    rcases h3' with rfl | ⟨b', off', ha', hc'⟩
    · simp at hu
    · simp at he
      rw [ha'] at he
      simp at he
      obtain ⟨⟨rfl, rfl⟩, rfl⟩ := he
      have hlt := lt_of_cell (hc' j' u' hu)
      exact cell_far (grownBy_set (grownBy_refl w (some g)) j u) (fun e => by simp at e; simp only at hlt; omega) (hc j' u' hu)

structure BLk (w wr : World) (q G : Nat) (l : Lk) (a b : Value) : Prop where
  resL : Bx wr w.heap.size 25 #[.int .i64 0, .slice none 0 0, .slice none 0 0]
  box : Bx wr G 25 #[.int .i64 l.slot, a, b]
  lk : LkAt wr l a b
  ga : ∀ k, a.ownBlock = some k → w.heap.size + 1 < k
  gb : ∀ k, b.ownBlock = some k → w.heap.size + 1 < k
  gl : w.heap.size + 1 < G
  rd : Rd wr (w.heap.size + 1) q
  bel : Below w.heap.size w wr
  hn : l.held.length ≤ 100
  hm : l.waits.length ≤ 100

section
variable {w wr w' : World} {q q' G : Nat} {l : Lk} {a b : Value}
theorem BLk.kept (h : BLk w wr q G l a b) (hb : Below wr.heap.size wr w') : BLk w w' q G l a b :=
  ⟨h.resL.kept hb, h.box.kept hb, h.lk.kept hb, h.ga, h.gb, h.gl, h.rd.kept hb, h.bel.trans (hb.mono h.bel.size), h.hn, h.hm⟩
theorem BLk.allocK {o : Obj} (h : BLk w wr q G l a b) : BLk w (wr.alloc o) q G l a b := h.kept ((Below.refl _ _).alloc (Nat.le_refl _) o)
theorem BLk.drewK (h : BLk w wr q G l a b) : BLk w wr.drew q G l a b := h.kept ((Below.refl _ _).drew)
theorem BLk.pick (h : BLk w wr q G l a b) (hg : wr.grownBy w' (some (w.heap.size + 1))) (hr : Rd w' (w.heap.size + 1) q') : BLk w w' q' G l a b :=
  ⟨h.resL.far hg (fun e => by simp at e), h.box.far hg (fun e => by have := h.gl; simp at e; omega),
   ⟨h.lk.held.far hg (.inr (fun e => by have := h.ga _ e; omega)), h.lk.waits.far hg (.inr (fun e => by have := h.gb _ e; omega))⟩, h.ga, h.gb, h.gl, hr, Below.grown h.bel hg h.bel.size (fun k e => by simp at e; omega), h.hn, h.hm⟩
theorem BLk.pickAny (h : BLk w wr q G l a b) (hq : q ≤ 900000) (m : Int) (hm : 1 ≤ m) (hm' : m ≤ 1000000) :
    Calls Try.prog 40 #[.pointer (some ⟨w.heap.size + 1, 0, none⟩), .int .i64 m] wr fun e w' => ∃ k : Nat, e = .returned (.int .i64 (k : Int)) ∧ (k : Int) < m ∧ BLk w w' (q + 1) G l a b ∧ wr.grownBy w' (some (w.heap.size + 1)) :=
  (pick_any (w.heap.size + 1) q m wr h.rd (by omega) hm').mono fun _ _ ⟨k, h1, h2, h3, h4, h5, _⟩ => by
    obtain ⟨n, rfl⟩ := Int.eq_ofNat_of_zero_le h2
    exact ⟨n, h1, h3 hm, h.pick h5 h4, h5⟩
theorem BLk.setNew (h : BLk w wr q G l a b) {w0 : World} {q0 : Nat} (h0 : BLk w w0 q0 G l a b) {g : Nat} (hg : w0.heap.size ≤ g) (j : Nat) (u : Value) : BLk w (wr.setCell ⟨g, j, none⟩ u) q G l a b := by
  have hs : wr.grownBy (wr.setCell ⟨g, j, none⟩ u) (some g) := grownBy_set (grownBy_refl wr (some g)) j u
  have z0 := h0.box.lt
  have z1 := h0.gl
  exact ⟨h.resL.far hs (fun e => by simp at e; omega), h.box.far hs (fun e => by simp at e; omega), ⟨h.lk.held.setFresh h0.lk.held hg j u, h.lk.waits.setFresh h0.lk.waits hg j u⟩, h.ga, h.gb, h.gl, h.rd.far hs (fun y hy e => by simp at e; omega), h.bel.setCell (by simp only; omega) _, h.hn, h.hm⟩
def BCut (w : World) (q G : Nat) (l : Lk) (a b : Value) (s : Value) (wz : World) : Prop := ∃ (g : Nat) (x : Hd), s = .pointer (some ⟨g, 0, none⟩) ∧ Bx wz g 27 #[.int .i64 x.stamp, .int .i64 x.try_, .bool x.share, .bool x.firm] ∧ w.heap.size + 1 < g ∧ BLk w wz q G l a b
theorem bCutNew {xs xt : Int} {xh xf : Bool} (h : BLk w wr q G l a b) : BCut w q G l a b (.pointer (some ⟨wr.heap.size, 0, none⟩)) (wr.alloc (.cells #[.int .i64 xs, .int .i64 xt, .bool xh, .bool xf] 27)) :=
  ⟨_, ⟨xs, xt, xh, xf⟩, rfl, Bx.made _ _ _, by have := h.box.lt; have := h.gl; omega, h.allocK⟩
theorem bCutOld {w0 : World} {q0 g : Nat} {xs xt : Int} {xh xf : Bool} {c0 c1 c2 c3 : Value} (h : BLk w wr q G l a b) (h0 : BLk w w0 q0 G l a b) (hg : w0.heap.size ≤ g) (hx : Bx wr g 27 #[c0, c1, c2, c3]) :
    BCut w q G l a b (.pointer (some ⟨g, 0, none⟩)) ((((wr.setCell ⟨g, 0, none⟩ (.int .i64 xs)).setCell ⟨g, 1, none⟩ (.int .i64 xt)).setCell ⟨g, 2, none⟩ (.bool xh)).setCell ⟨g, 3, none⟩ (.bool xf)) :=
  ⟨g, ⟨xs, xt, xh, xf⟩, rfl, ⟨heap_setCell_same _ _ _ _ _ _ (heap_setCell_same _ _ _ _ _ _ (heap_setCell_same _ _ _ _ _ _ (heap_setCell_same _ _ _ _ _ _ hx.row)))⟩, by have := h0.box.lt; have := h0.gl; omega, (((h.setNew h0 hg _ _).setNew h0 hg _ _).setNew h0 hg _ _).setNew h0 hg _ _⟩
theorem BLk.endL {slot : Int} {H W : List Hd} (h : BLk w wr q G ⟨slot, H, W⟩ a b) (wz : World) (hz : wz = (((wr.setCell ⟨w.heap.size, 0, none⟩ (.int .i64 slot)).setCell ⟨w.heap.size, 1, none⟩ a).setCell ⟨w.heap.size, 2, none⟩ b)) :
    wz.heap[w.heap.size]? = some (.cells #[.int .i64 slot, a, b] 25 (0, 0)) ∧ LkAt wz ⟨slot, H, W⟩ a b ∧ Below w.heap.size w wz := by
  subst hz
  have g1 := grown3 wr w.heap.size (.int .i64 slot) a b
  exact ⟨heap_setCell_same _ _ _ _ _ _ (heap_setCell_same _ _ _ _ _ _ (heap_setCell_same _ _ _ _ _ _ h.resL.row)), ⟨h.lk.held.far g1 (.inr (fun e => by have := h.ga _ e; omega)), h.lk.waits.far g1 (.inr (fun e => by have := h.gb _ e; omega))⟩, ((h.bel.setCell (by simp) _).setCell (by simp) _).setCell (by simp) _⟩
end

set_option maxRecDepth 100000 in
set_option maxHeartbeats 4000000 in
theorem drawLockFirm_any (v : Value) (n : Nat) (w : World) (hv : BytesAt w v n) :
    Calls Try.prog 25 #[v] w fun e w' => ∃ (l : Lk) (a b : Value) (s t : Int), e = .returned (.tuple #[lkV l a b, .int .i64 s, .int .i64 t]) ∧ LkAt w' l a b ∧ l.held.length ≤ 100 ∧ l.waits.length ≤ 100 ∧ (∀ k, a.ownBlock = some k → w.heap.size ≤ k) ∧ (∀ k, b.ownBlock = some k → w.heap.size ≤ k) ∧ Below w.heap.size w w' := by
  have HV := hide hv
  clear hv
  go_enter Try.func25, Try.ntmps25
  go_wp2_with fail
  have bA : Below w.heap.size w (w.alloc (.cells #[.int .i64 0, .slice none 0 0, .slice none 0 0] 25)) := (Below.refl _ _).alloc (Nat.le_refl _) _
  refine (open_any v n _ (BytesAt.keptE (unhide HV) bA)).mono ?_; rintro e w1 ⟨rfl, r1, b1, z1⟩
  have hsz : (w.alloc (.cells #[.int .i64 0, .slice none 0 0, .slice none 0 0] 25)).heap.size = w.heap.size + 1 := by simp
  rw [hsz] at r1 z1
  rw [hsz]
  have HR1 := hide r1
  have HXL := hide ((Bx.made w 25 #[.int .i64 0, .slice none 0 0, .slice none 0 0]).kept b1)
  have HB1 := hide (bA.trans (b1.mono bA.size))
  have HZ1 := hide z1
  clear r1 b1 bA hsz z1 HV
  go_wp2_with fail
  refine (l72Lock_any (w.heap.size + 1) 0 _ (unhide HR1) (by omega)).mono ?_; rintro e w2 ⟨l, a, b, q, rfl, hk2, hn2, hm2, r2, hq2, g2, ga2, gb2⟩
  obtain ⟨a0, c0, rfl, -⟩ := hk2.held.shape
  obtain ⟨a1, c1, rfl, -⟩ := hk2.waits.shape
  obtain ⟨slot, H, W⟩ := l
  have z1 := unhide HZ1
  have s2 := g2.size
  have HA2 : Hid (BLk w (w2.alloc (.cells #[.int .i64 slot, .slice a0 H.length c0, .slice a1 W.length c1] 25)) q w2.heap.size ⟨slot, H, W⟩ (.slice a0 H.length c0) (.slice a1 W.length c1)) :=
    ⟨((unhide HXL).far g2 (fun e => by simp at e)).allocK, Bx.made _ _ _, hk2.kept ((Below.refl _ _).alloc (Nat.le_refl _) _), fun k e => by have := ga2 k e; omega, fun k e => by have := gb2 k e; omega, by omega, r2.allocK, (Below.grown (unhide HB1) g2 (unhide HB1).size (fun k e => by simp at e; omega)).alloc (by have := (unhide HB1).size; omega) _, hn2, hm2⟩
  simp only [lkV]
  clear hk2 r2 g2 ga2 gb2 z1 s2 HXL HB1 HR1 HZ1
  obtain ⟨q0, q1, q2⟩ := (unhide HA2).box.three
  obtain ⟨f0, f1, f2⟩ := (unhide HA2).box.free3
  have l2 := (unhide HA2).gl
  have hrest : ∀ (wz : World) (q' : Nat), q' ≤ 900000 → BLk w wz q' w2.heap.size ⟨slot, H, W⟩ (.slice a0 H.length c0) (.slice a1 W.length c1) → True := fun _ _ _ _ => trivial
  clear hrest
  by_cases hH : 0 < H.length
  case neg =>
    have hH' : ¬ (0 : Int) < (H.length : Int) := by omega
    go_wp2_with fail
    clear q0 q1 q2 f0 f1 f2
    refine wp_region_held_drew (S := fun w' => Bx w' w2.heap.size 25 #[.int .i64 slot, .slice a0 H.length c0, .slice a1 W.length c1]) (by kernel_rfl) ⟨(unhide HA2).box.row⟩ (fun hHeld => ?_)
    refine wpAnyH_take (i := 0) (v := .agg #[.int .i64 slot, .slice a0 H.length c0, .slice a1 W.length c1]) rfl (by kernel_rfl) (by kernel_rfl) (by kernel_rfl) (fun _ _ _ h => h) (Or.inl ⟨by rfl, ?h1⟩) (by assumption) ?_
    case h1 => exact fun w0 hSw => load_yieldsB 25 (.tmp 6) rfl rfl hSw Try.underlying25 (by kernel_rfl)
    try simp only [Act.put]
    refine wpAnyH_take (i := 1) (v := ?v2) rfl (by kernel_rfl) (by kernel_rfl) (by kernel_rfl) (fun _ _ _ h => h) (Or.inl ⟨by rfl, ?h2⟩) (by assumption) ?_
    case h2 => (intro w0 hSw; go_simp; try (with_reducible rfl))
    try simp only [Act.put]
    refine wpAnyH_take (i := 4) (v := ?v3) rfl (by kernel_rfl) (by kernel_rfl) (by kernel_rfl) (fun _ _ _ h => h) (Or.inl ⟨by rfl, ?h3⟩) (by assumption) ?_
    case h3 => (intro w0 hSw; go_simp; try (with_reducible rfl))
    try simp only [Act.put]
    refine wpAnyH_ready (rs := [2]) (by kernel_rfl) (by simp) ?_
    refine AllReadyH.cons rfl (fun K hK => ?_) AllReadyH.nil
    go_simp
    go_at_call 40
    refine (BLk.pickAny (unhide HA2).drewK (by omega) 7 (by omega) (by omega)).mono ?_; rintro e w5 ⟨k5, rfl, b5, d5, g5⟩
    have HD5 := hide d5
    clear d5 g5
    try go_wp2_with fail
    clear hHeld
    refine hK.out _ _ (unhide HD5).box (fun hHeld => ?_)
    clear hK K
    refine wpAnyH_take (i := 3) (v := ?v4) rfl (by kernel_rfl) (by kernel_rfl) (by kernel_rfl) (fun _ _ _ h => h) (Or.inl ⟨by rfl, ?h4⟩) (by assumption) ?_
    case h4 => (intro w0 hSw; go_simp; try (with_reducible rfl))
    try simp only [Act.put]
    refine wpAnyH_ready (rs := [5]) (by kernel_rfl) (by simp) ?_
    refine AllReadyH.cons rfl (fun K hK => ?_) AllReadyH.nil
    go_simp
    go_at_call 40
    refine (BLk.pickAny (unhide HD5) (by omega) 3 (by omega) (by omega)).mono ?_; rintro e w6 ⟨k6, rfl, b6, d6, g6⟩
    have HD6 := hide d6
    clear d6 g6
    try go_wp2_with fail
    clear hHeld
    refine hK.out _ _ (unhide HD6).box (fun hHeld => ?_)
    clear hK K
    refine wpAnyH_take (i := 6) (v := ?v5) rfl (by kernel_rfl) (by kernel_rfl) (by kernel_rfl) (fun _ _ _ h => h) (Or.inl ⟨by rfl, ?h5⟩) (by assumption) ?_
    case h5 => (intro w0 hSw; go_simp; try (with_reducible rfl))
    try simp only [Act.put]
    have HEND := hide ((unhide HD6).endL _ rfl)
    obtain ⟨z0, z1, z2⟩ := (unhide HD6).resL.three
    obtain ⟨z3, z4, z5⟩ := (unhide HD6).resL.free3
    refine wpAnyH_ready (rs := [7]) (by kernel_rfl) (by simp) ?_
    refine AllReadyH.cons rfl (fun K hK => ?_) AllReadyH.nil
    go_simp
    try go_wp2_with fail
    clear hHeld
    refine hK.out _ _ (((unhide HD6).box).far (grown3 _ w.heap.size (.int .i64 slot) (.slice a0 H.length c0) (.slice a1 W.length c1)) (fun e => by have := (unhide HD6).gl; simp at e; omega)) (fun hHeld => ?_)
    clear hK K
    clear z0 z1 z2 z3 z4 z5
    refine wpAnyH_ready (rs := [8]) (by kernel_rfl) (by simp) ?_
    refine AllReadyH.cons rfl (fun K hK => ?_) AllReadyH.nil
    go_simp
    try go_wp2_with fail
    refine hK.out _ _ (by assumption) (fun hHeld' => ?_)
    clear hK K hHeld
    have hHeld := hHeld'
    clear hHeld'
    refine wpAnyH_ready (rs := [9]) (by kernel_rfl) (by simp) ?_
    refine AllReadyH.cons rfl (fun K hK => ?_) AllReadyH.nil
    go_simp
    try go_wp2_with fail
    refine hK.out _ _ (by assumption) (fun hHeld' => ?_)
    clear hK K hHeld
    have hHeld := hHeld'
    clear hHeld'
    refine wpAnyH_done (by kernel_rfl) ?_ _
    go_wp2_with fail
    obtain ⟨e1, e2, e3⟩ := unhide HEND
    refine bodyPost_ret (results_row_tmp2 rfl _ _ w.heap.size _ _ _ _ rfl (Bx.mk e1).row Try.underlying25 rfl (by kernel_rfl)) rfl ?_
    exact ⟨⟨slot, H, W⟩, _, _, _, _, rfl, e2, hn2, hm2, fun k e => by have := (unhide HD6).ga k e; omega, fun k e => by have := (unhide HD6).gb k e; omega, e3⟩
  have hH' : (0 : Int) < (H.length : Int) := by omega
  obtain ⟨bh, oh, rfl⟩ := (unhide HA2).lk.held.some_of hH
  go_wp2_with fail
  refine (BLk.pickAny (unhide HA2) (by omega) 3 (by omega) (by omega)).mono ?_; rintro e w3 ⟨k3, rfl, b3, d3, g3⟩
  have HA3 := hide d3
  have l3 := (unhide HA3).box.lt
  clear d3 g3 HA2 q0 q1 q2 f0 f1 f2
  obtain ⟨q0, q1, q2⟩ := (unhide HA3).box.three
  obtain ⟨f0, f1, f2⟩ := (unhide HA3).box.free3
  by_cases hk3 : (0 : Int) < (k3 : Int)
  case neg =>
    go_wp2_with fail
    clear q0 q1 q2 f0 f1 f2
    refine wp_region_held_drew (S := fun w' => Bx w' w2.heap.size 25 #[.int .i64 slot, .slice (some ⟨bh, oh, none⟩) H.length c0, .slice a1 W.length c1]) (by kernel_rfl) ⟨(unhide HA3).box.row⟩ (fun hHeld => ?_)
    refine wpAnyH_take (i := 0) (v := .agg #[.int .i64 slot, .slice (some ⟨bh, oh, none⟩) H.length c0, .slice a1 W.length c1]) rfl (by kernel_rfl) (by kernel_rfl) (by kernel_rfl) (fun _ _ _ h => h) (Or.inl ⟨by rfl, ?h6⟩) (by assumption) ?_
    case h6 => exact fun w0 hSw => load_yieldsB 25 (.tmp 6) rfl rfl hSw Try.underlying25 (by kernel_rfl)
    try simp only [Act.put]
    refine wpAnyH_take (i := 1) (v := ?v7) rfl (by kernel_rfl) (by kernel_rfl) (by kernel_rfl) (fun _ _ _ h => h) (Or.inl ⟨by rfl, ?h7⟩) (by assumption) ?_
    case h7 => (intro w0 hSw; go_simp; try (with_reducible rfl))
    try simp only [Act.put]
    refine wpAnyH_take (i := 4) (v := ?v8) rfl (by kernel_rfl) (by kernel_rfl) (by kernel_rfl) (fun _ _ _ h => h) (Or.inl ⟨by rfl, ?h8⟩) (by assumption) ?_
    case h8 => (intro w0 hSw; go_simp; try (with_reducible rfl))
    try simp only [Act.put]
    refine wpAnyH_ready (rs := [2]) (by kernel_rfl) (by simp) ?_
    refine AllReadyH.cons rfl (fun K hK => ?_) AllReadyH.nil
    go_simp
    go_at_call 40
    refine (BLk.pickAny (unhide HA3).drewK (by omega) 7 (by omega) (by omega)).mono ?_; rintro e w5 ⟨k5, rfl, b5, d5, g5⟩
    have HD5 := hide d5
    clear d5 g5
    try go_wp2_with fail
    clear hHeld
    refine hK.out _ _ (unhide HD5).box (fun hHeld => ?_)
    clear hK K
    refine wpAnyH_take (i := 3) (v := ?v9) rfl (by kernel_rfl) (by kernel_rfl) (by kernel_rfl) (fun _ _ _ h => h) (Or.inl ⟨by rfl, ?h9⟩) (by assumption) ?_
    case h9 => (intro w0 hSw; go_simp; try (with_reducible rfl))
    try simp only [Act.put]
    refine wpAnyH_ready (rs := [5]) (by kernel_rfl) (by simp) ?_
    refine AllReadyH.cons rfl (fun K hK => ?_) AllReadyH.nil
    go_simp
    go_at_call 40
    refine (BLk.pickAny (unhide HD5) (by omega) 3 (by omega) (by omega)).mono ?_; rintro e w6 ⟨k6, rfl, b6, d6, g6⟩
    have HD6 := hide d6
    clear d6 g6
    try go_wp2_with fail
    clear hHeld
    refine hK.out _ _ (unhide HD6).box (fun hHeld => ?_)
    clear hK K
    refine wpAnyH_take (i := 6) (v := ?v10) rfl (by kernel_rfl) (by kernel_rfl) (by kernel_rfl) (fun _ _ _ h => h) (Or.inl ⟨by rfl, ?h10⟩) (by assumption) ?_
    case h10 => (intro w0 hSw; go_simp; try (with_reducible rfl))
    try simp only [Act.put]
    have HEND := hide ((unhide HD6).endL _ rfl)
    obtain ⟨z0, z1, z2⟩ := (unhide HD6).resL.three
    obtain ⟨z3, z4, z5⟩ := (unhide HD6).resL.free3
    refine wpAnyH_ready (rs := [7]) (by kernel_rfl) (by simp) ?_
    refine AllReadyH.cons rfl (fun K hK => ?_) AllReadyH.nil
    go_simp
    try go_wp2_with fail
    clear hHeld
    refine hK.out _ _ (((unhide HD6).box).far (grown3 _ w.heap.size (.int .i64 slot) (.slice (some ⟨bh, oh, none⟩) H.length c0) (.slice a1 W.length c1)) (fun e => by have := (unhide HD6).gl; simp at e; omega)) (fun hHeld => ?_)
    clear hK K
    clear z0 z1 z2 z3 z4 z5
    refine wpAnyH_ready (rs := [8]) (by kernel_rfl) (by simp) ?_
    refine AllReadyH.cons rfl (fun K hK => ?_) AllReadyH.nil
    go_simp
    try go_wp2_with fail
    refine hK.out _ _ (by assumption) (fun hHeld' => ?_)
    clear hK K hHeld
    have hHeld := hHeld'
    clear hHeld'
    refine wpAnyH_ready (rs := [9]) (by kernel_rfl) (by simp) ?_
    refine AllReadyH.cons rfl (fun K hK => ?_) AllReadyH.nil
    go_simp
    try go_wp2_with fail
    refine hK.out _ _ (by assumption) (fun hHeld' => ?_)
    clear hK K hHeld
    have hHeld := hHeld'
    clear hHeld'
    refine wpAnyH_done (by kernel_rfl) ?_ _
    go_wp2_with fail
    obtain ⟨e1, e2, e3⟩ := unhide HEND
    refine bodyPost_ret (results_row_tmp2 rfl _ _ w.heap.size _ _ _ _ rfl (Bx.mk e1).row Try.underlying25 rfl (by kernel_rfl)) rfl ?_
    exact ⟨⟨slot, H, W⟩, _, _, _, _, rfl, e2, hn2, hm2, fun k e => by have := (unhide HD6).ga k e; omega, fun k e => by have := (unhide HD6).gb k e; omega, e3⟩
  go_wp2_with fail
  go_cut [7] (fun s wz => BCut w (q + 1 + 1) w2.heap.size ⟨slot, H, W⟩ (.slice (some ⟨bh, oh, none⟩) H.length c0) (.slice a1 W.length c1) s wz)
  case first =>
    clear q0 q1 q2 f0 f1 f2
    refine wp_region_held_drew (S := fun w' => Bx w' w2.heap.size 25 #[.int .i64 slot, .slice (some ⟨bh, oh, none⟩) H.length c0, .slice a1 W.length c1] ∧ RowAt hdE w' (.slice (some ⟨bh, oh, none⟩) H.length c0) H) (by kernel_rfl) ⟨⟨(unhide HA3).box.row⟩, (unhide HA3).drewK.lk.held⟩ (fun hHeld => ?_)
    refine wpAnyH_take (i := 0) (v := ?v11) rfl (by kernel_rfl) (by kernel_rfl) (by kernel_rfl) (fun _ _ _ h => h) (Or.inl ⟨by rfl, ?h11⟩) (by assumption) ?_
    case h11 => (intro w0 hSw; obtain ⟨s0, s1, s2⟩ := hSw.1.three; go_simp; try (with_reducible rfl))
    try simp only [Act.put]
    refine wpAnyH_take (i := 1) (v := ?v12) rfl (by kernel_rfl) (by kernel_rfl) (by kernel_rfl) (fun _ _ _ h => h) (Or.inl ⟨by rfl, ?h12⟩) (by assumption) ?_
    case h12 => (intro w0 hSw; obtain ⟨s0, s1, s2⟩ := hSw.1.three; go_simp; try (with_reducible rfl))
    try simp only [Act.put]
    refine wpAnyH_take (i := 2) (v := ?v13) rfl (by kernel_rfl) (by kernel_rfl) (by kernel_rfl) (fun _ _ _ h => h) (Or.inl ⟨by rfl, ?h13⟩) (by assumption) ?_
    case h13 => (intro w0 hSw; obtain ⟨s0, s1, s2⟩ := hSw.1.three; go_simp; try (with_reducible rfl))
    try simp only [Act.put]
    refine wpAnyH_take (i := 3) (v := ?v14) rfl (by kernel_rfl) (by kernel_rfl) (by kernel_rfl) (fun _ _ _ h => h) (Or.inl ⟨by rfl, ?h14⟩) (by assumption) ?_
    case h14 => (intro w0 hSw; obtain ⟨s0, s1, s2⟩ := hSw.1.three; go_simp; try (with_reducible rfl))
    try simp only [Act.put]
    refine wpAnyH_take (i := 4) (v := ?v15) rfl (by kernel_rfl) (by kernel_rfl) (by kernel_rfl) (fun _ _ _ h => h) (Or.inl ⟨by rfl, ?h15⟩) (by assumption) ?_
    case h15 => (intro w0 hSw; obtain ⟨s0, s1, s2⟩ := hSw.1.three; go_simp; try (with_reducible rfl))
    try simp only [Act.put]
    refine wpAnyH_take (i := 5) (v := ?v16) rfl (by kernel_rfl) (by kernel_rfl) (by kernel_rfl) (fun _ _ _ h => h) (Or.inl ⟨by rfl, ?h16⟩) (by assumption) ?_
    case h16 => (intro w0 hSw; obtain ⟨s0, s1, s2⟩ := hSw.1.three; go_simp; try (with_reducible rfl))
    try simp only [Act.put]
    refine wpAnyH_ready (rs := [6, 9]) (by kernel_rfl) (by simp) ?_
    refine AllReadyH.cons rfl (fun K hK => ?_) (AllReadyH.cons rfl (fun K hK => ?_) AllReadyH.nil)
    ·
      go_simp
      go_at_call 40
      refine (BLk.pickAny (unhide HA3).drewK (by omega) (H.length : Int) (by omega) (by omega)).mono ?_; rintro e w4 ⟨Kx, rfl, b4, d4, g4⟩
      have HD4 := hide d4
      have hKx : Kx < H.length := by omega
      have l4 := g4.size
      (try simp at l4)
      clear d4 g4
      try go_wp2_with fail
      clear hHeld
      refine hK.out _ _ ⟨(unhide HD4).box, (unhide HD4).lk.held⟩ (fun hHeld => ?_)
      clear hK K
      have hk0 : (0 : Int) ≤ (Kx : Int) := by omega
      refine wpAnyH_take (i := 7) (v := ?v17) rfl (by kernel_rfl) (by kernel_rfl) (by kernel_rfl) (fun _ _ _ h => h) (Or.inl ⟨by rfl, ?h17⟩) (by assumption) ?_
      case h17 => (intro w0 hSw; obtain ⟨s0, s1, s2⟩ := hSw.1.three; go_simp; try (with_reducible rfl))
      try simp only [Act.put]
      refine wpAnyH_take (i := 8) (v := ?v18) rfl (by kernel_rfl) (by kernel_rfl) (by kernel_rfl) (fun _ _ _ h => h) (Or.inl ⟨by rfl, ?h18⟩) (by assumption) ?_
      case h18 => (intro w0 hSw; obtain ⟨t0', t1', t2', t3'⟩ := hd_cells hSw.2 (i := Kx) hKx; go_simp; try (with_reducible rfl))
      try simp only [Act.put]
      refine wpAnyH_ready (rs := [9]) (by kernel_rfl) (by simp) ?_
      refine AllReadyH.cons rfl (fun K hK => ?_) AllReadyH.nil
      go_simp
      try go_wp2_with fail
      clear hHeld
      refine hK.out _ _ ⟨BLk.box (unhide HD4).allocK, (BLk.lk (unhide HD4).allocK).held⟩ (fun hHeld => ?_)
      clear hK K
      refine wpAnyH_ready (rs := [10]) (by kernel_rfl) (by simp) ?_
      refine AllReadyH.cons rfl (fun K hK => ?_) AllReadyH.nil
      go_simp
      try go_wp2_with fail
      clear hHeld
      refine hK.out _ _ ⟨BLk.box (unhide HD4).allocK, (BLk.lk (unhide HD4).allocK).held⟩ (fun hHeld => ?_)
      clear hK K
      refine wpAnyH_done (by kernel_rfl) ?_ _
      try go_wp2_with fail
      go_meet
      case rel => exact bCutNew (unhide HD4)
    ·
      go_simp
      try go_wp2_with fail
      clear hHeld
      refine hK.out _ _ ⟨BLk.box (unhide HA3).drewK.allocK, (BLk.lk (unhide HA3).drewK.allocK).held⟩ (fun hHeld => ?_)
      clear hK K
      refine wpAnyH_ready (rs := [6]) (by kernel_rfl) (by simp) ?_
      refine AllReadyH.cons rfl (fun K hK => ?_) AllReadyH.nil
      go_simp
      go_at_call 40
      refine (BLk.pickAny (unhide HA3).drewK.allocK (by omega) (H.length : Int) (by omega) (by omega)).mono ?_; rintro e w4 ⟨Kx, rfl, b4, d4, g4⟩
      have HZ : Hid (Bx w4 w3.heap.size 27 #[.int .i64 0, .int .i64 0, .bool false, .bool false]) := ((Bx.made w3.drew 27 #[.int .i64 0, .int .i64 0, .bool false, .bool false]).far g4 (fun e => by simp at e; omega))
      have HD4 := hide d4
      have hKx : Kx < H.length := by omega
      have l4 := g4.size
      (try simp at l4)
      clear d4 g4
      try go_wp2_with fail
      clear hHeld
      refine hK.out _ _ ⟨(unhide HD4).box, (unhide HD4).lk.held⟩ (fun hHeld => ?_)
      clear hK K
      have hk0 : (0 : Int) ≤ (Kx : Int) := by omega
      refine wpAnyH_take (i := 7) (v := ?v19) rfl (by kernel_rfl) (by kernel_rfl) (by kernel_rfl) (fun _ _ _ h => h) (Or.inl ⟨by rfl, ?h19⟩) (by assumption) ?_
      case h19 => (intro w0 hSw; obtain ⟨s0, s1, s2⟩ := hSw.1.three; go_simp; try (with_reducible rfl))
      try simp only [Act.put]
      refine wpAnyH_take (i := 8) (v := ?v20) rfl (by kernel_rfl) (by kernel_rfl) (by kernel_rfl) (fun _ _ _ h => h) (Or.inl ⟨by rfl, ?h20⟩) (by assumption) ?_
      case h20 => (intro w0 hSw; obtain ⟨t0', t1', t2', t3'⟩ := hd_cells hSw.2 (i := Kx) hKx; go_simp; try (with_reducible rfl))
      try simp only [Act.put]
      refine wpAnyH_ready (rs := [10]) (by kernel_rfl) (by simp) ?_
      refine AllReadyH.cons rfl (fun K hK => ?_) AllReadyH.nil
      have lz := (unhide HZ).lt
      have HCU := hide (fun xs xt xh xf => bCutOld (xs := xs) (xt := xt) (xh := xh) (xf := xf) (unhide HD4) (unhide HA3) (Nat.le_refl _) (unhide HZ))
      obtain ⟨z0, z1, z2, z3⟩ := (unhide HZ).four
      have z4 := (unhide HZ).free 0
      have z5 := (unhide HZ).free 1
      have z6 := (unhide HZ).free 2
      have z7 := (unhide HZ).free 3
      go_simp
      try go_wp2_with fail
      clear hHeld
      refine hK.out _ _ ?_ (fun hHeld => ?_)
      · obtain ⟨g, x, h1, h2, h3, h4⟩ := unhide HCU _ _ _ _; exact ⟨h4.box, h4.lk.held⟩
      clear hK K
      refine wpAnyH_done (by kernel_rfl) ?_ _
      try go_wp2_with fail
      go_meet
      case rel => exact unhide HCU _ _ _ _
  case rest =>
    rename World => w5
    obtain ⟨gh, x, rfl, hbx, hgh, hd5⟩ := hcut
    obtain ⟨xs, xt, xh, xf⟩ := x
    have HD5 := hide hd5
    have HH5 := hide hbx
    clear q0 q1 q2 f0 f1 f2 hd5 hbx
    go_wp2_with fail
    refine wp_region_held_drew (S := fun w' => Bx w' w2.heap.size 25 #[.int .i64 slot, .slice (some ⟨bh, oh, none⟩) H.length c0, .slice a1 W.length c1] ∧ Bx w' gh 27 #[.int .i64 xs, .int .i64 xt, .bool xh, .bool xf]) (by kernel_rfl) ⟨⟨(unhide HD5).box.row⟩, ⟨(unhide HH5).row⟩⟩ (fun hHeld => ?_)
    refine wpAnyH_take (i := 0) (v := .agg #[.int .i64 slot, .slice (some ⟨bh, oh, none⟩) H.length c0, .slice a1 W.length c1]) rfl (by kernel_rfl) (by kernel_rfl) (by kernel_rfl) (fun _ _ _ h => h) (Or.inl ⟨by rfl, ?h21⟩) (by assumption) ?_
    case h21 => exact fun w0 hSw => load_yieldsB 25 (.tmp 6) rfl rfl hSw.1 Try.underlying25 (by kernel_rfl)
    try simp only [Act.put]
    refine wpAnyH_take (i := 1) (v := ?v22) rfl (by kernel_rfl) (by kernel_rfl) (by kernel_rfl) (fun _ _ _ h => h) (Or.inl ⟨by rfl, ?h22⟩) (by assumption) ?_
    case h22 => (intro w0 hSw; obtain ⟨s0, s1, s2, s3⟩ := hSw.2.four; go_simp; try (with_reducible rfl))
    try simp only [Act.put]
    refine wpAnyH_take (i := 2) (v := ?v23) rfl (by kernel_rfl) (by kernel_rfl) (by kernel_rfl) (fun _ _ _ h => h) (Or.inl ⟨by rfl, ?h23⟩) (by assumption) ?_
    case h23 => (intro w0 hSw; obtain ⟨s0, s1, s2, s3⟩ := hSw.2.four; go_simp; try (with_reducible rfl))
    try simp only [Act.put]
    refine wpAnyH_take (i := 3) (v := ?v24) rfl (by kernel_rfl) (by kernel_rfl) (by kernel_rfl) (fun _ _ _ h => h) (Or.inl ⟨by rfl, ?h24⟩) (by assumption) ?_
    case h24 => (intro w0 hSw; obtain ⟨s0, s1, s2, s3⟩ := hSw.2.four; go_simp; try (with_reducible rfl))
    try simp only [Act.put]
    refine wpAnyH_take (i := 4) (v := ?v25) rfl (by kernel_rfl) (by kernel_rfl) (by kernel_rfl) (fun _ _ _ h => h) (Or.inl ⟨by rfl, ?h25⟩) (by assumption) ?_
    case h25 => (intro w0 hSw; obtain ⟨s0, s1, s2, s3⟩ := hSw.2.four; go_simp; try (with_reducible rfl))
    try simp only [Act.put]
    refine wpAnyH_take (i := 5) (v := ?v26) rfl (by kernel_rfl) (by kernel_rfl) (by kernel_rfl) (fun _ _ _ h => h) (Or.inl ⟨by rfl, ?h26⟩) (by assumption) ?_
    case h26 => (intro w0 hSw; obtain ⟨s0, s1, s2, s3⟩ := hSw.2.four; go_simp; try (with_reducible rfl))
    try simp only [Act.put]
    refine wpAnyH_ready (rs := [6]) (by kernel_rfl) (by simp) ?_
    refine AllReadyH.cons rfl (fun K hK => ?_) AllReadyH.nil
    go_simp
    go_at_call 40
    refine (BLk.pickAny (unhide HD5).drewK (by omega) 4 (by omega) (by omega)).mono ?_; rintro e w6 ⟨k6, rfl, b6, d6, g6⟩
    have HD6 := hide d6
    have HH6 := hide ((unhide HH5).drewK.far g6 (fun e => by simp at e; omega))
    clear d6 g6
    try go_wp2_with fail
    clear hHeld
    refine hK.out _ _ ⟨(unhide HD6).box, unhide HH6⟩ (fun hHeld => ?_)
    clear hK K
    have hk60 : (0 : Int) ≤ (k6 : Int) := by omega
    refine wpAnyH_take (i := 7) (v := ?v27) rfl (by kernel_rfl) (by kernel_rfl) (by kernel_rfl) (fun _ _ _ h => h) (Or.inl ⟨by rfl, ?h27⟩) (by assumption) ?_
    case h27 => (intro w0 hSw; go_simp; try (with_reducible rfl))
    try simp only [Act.put]
    refine wpAnyH_take (i := 8) (v := ?v28) rfl (by kernel_rfl) (by kernel_rfl) (by kernel_rfl) (fun _ _ _ h => h) (Or.inl ⟨by rfl, ?h28⟩) (by assumption) ?_
    case h28 => (intro w0 hSw; go_simp; try (with_reducible rfl))
    try simp only [Act.put]
    have HEND := hide ((unhide HD6).endL _ rfl)
    obtain ⟨z0, z1, z2⟩ := (unhide HD6).resL.three
    obtain ⟨z3, z4, z5⟩ := (unhide HD6).resL.free3
    refine wpAnyH_ready (rs := [9]) (by kernel_rfl) (by simp) ?_
    refine AllReadyH.cons rfl (fun K hK => ?_) AllReadyH.nil
    go_simp
    try go_wp2_with fail
    clear hHeld
    refine hK.out _ _ ⟨(((unhide HD6).box).far (grown3 _ w.heap.size (.int .i64 slot) (.slice (some ⟨bh, oh, none⟩) H.length c0) (.slice a1 W.length c1)) (fun e => by have := (unhide HD6).gl; simp at e; omega)), ((unhide HH6).far (grown3 _ w.heap.size (.int .i64 slot) (.slice (some ⟨bh, oh, none⟩) H.length c0) (.slice a1 W.length c1)) (fun e => by simp at e; omega))⟩ (fun hHeld => ?_)
    clear hK K
    clear z0 z1 z2 z3 z4 z5
    refine wpAnyH_ready (rs := [10]) (by kernel_rfl) (by simp) ?_
    refine AllReadyH.cons rfl (fun K hK => ?_) AllReadyH.nil
    go_simp
    try go_wp2_with fail
    refine hK.out _ _ (by assumption) (fun hHeld' => ?_)
    clear hK K hHeld
    have hHeld := hHeld'
    clear hHeld'
    refine wpAnyH_ready (rs := [11]) (by kernel_rfl) (by simp) ?_
    refine AllReadyH.cons rfl (fun K hK => ?_) AllReadyH.nil
    go_simp
    try go_wp2_with fail
    refine hK.out _ _ (by assumption) (fun hHeld' => ?_)
    clear hK K hHeld
    have hHeld := hHeld'
    clear hHeld'
    refine wpAnyH_done (by kernel_rfl) ?_ _
    go_wp2_with fail
    obtain ⟨e1, e2, e3⟩ := unhide HEND
    refine bodyPost_ret (results_row_tmp2 rfl _ _ w.heap.size _ _ _ _ rfl (Bx.mk e1).row Try.underlying25 rfl (by kernel_rfl)) rfl ?_
    exact ⟨⟨slot, H, W⟩, _, _, _, _, rfl, e2, hn2, hm2, fun k e => by have := (unhide HD6).ga k e; omega, fun k e => by have := (unhide HD6).gb k e; omega, e3⟩

set_option maxRecDepth 100000 in
set_option maxHeartbeats 1000000 in
theorem drawLockFree_any (v : Value) (n : Nat) (w : World) (hv : BytesAt w v n) :
    Calls Try.prog 22 #[v] w fun e w' => ∃ (l : Lk) (a b : Value) (s t : Int), e = .returned (.tuple #[lkV l a b, .int .i64 s, .int .i64 t]) ∧ LkAt w' l a b ∧ l.held.length ≤ 100 ∧ l.waits.length ≤ 100 ∧ Below w.heap.size w w' := by
  have HV := hide hv
  clear hv
  go_enter Try.func22, Try.ntmps22
  go_wp2_with fail
  have bA : Below w.heap.size w (w.alloc (.cells #[.int .i64 0, .slice none 0 0, .slice none 0 0] 25)) := (Below.refl _ _).alloc (Nat.le_refl _) _
  refine (drawLockFirm_any v n _ (BytesAt.keptE (unhide HV) bA)).mono ?_; rintro e w1 ⟨l, a, b, s, t, rfl, hk, hn, hm, ga, gb, b1⟩
  have hx := (Bx.made w 25 #[.int .i64 0, .slice none 0 0, .slice none 0 0]).kept b1
  have hbb := bA.trans (b1.mono bA.size)
  have g1 := fun u0 u1 u2 => grown3 w1 w.heap.size u0 u1 u2
  have HEND : Hid (∀ wz, wz = (((w1.setCell ⟨w.heap.size, 0, none⟩ (.int .i64 l.slot)).setCell ⟨w.heap.size, 1, none⟩ a).setCell ⟨w.heap.size, 2, none⟩ b) → wz.heap[w.heap.size]? = some (.cells #[.int .i64 l.slot, a, b] 25 (0, 0)) ∧ LkAt wz l a b ∧ Below w.heap.size w wz) := by
    intro wz hz
    subst hz
    exact ⟨heap_setCell_same _ _ _ _ _ _ (heap_setCell_same _ _ _ _ _ _ (heap_setCell_same _ _ _ _ _ _ hx.row)), ⟨hk.held.far (g1 _ _ _) (.inr (fun e => by have := ga _ e; simp at this; omega)), hk.waits.far (g1 _ _ _) (.inr (fun e => by have := gb _ e; simp at this; omega))⟩, ((hbb.setCell (by simp) _).setCell (by simp) _).setCell (by simp) _⟩
  obtain ⟨a0, c0, rfl, -⟩ := hk.held.shape
  obtain ⟨a1, c1, rfl, -⟩ := hk.waits.shape
  obtain ⟨slot, H, W⟩ := l
  simp only [lkV]
  obtain ⟨z0, z1, z2⟩ := hx.three
  obtain ⟨z3, z4, z5⟩ := hx.free3
  clear hx hk b1 bA hbb g1 ga gb
  go_wp2_with fail
  obtain ⟨e1, e2, e3⟩ := unhide HEND _ rfl
  refine bodyPost_ret (results_row_tmp2 rfl _ _ w.heap.size _ _ _ _ rfl (Bx.mk e1).row Try.underlying25 rfl (by kernel_rfl)) rfl ?_
  exact ⟨⟨slot, H, W⟩, _, _, ⟨_, _, rfl⟩, e2, hn, hm, e3⟩

end Go.Proofs.Ytoojnhodjkpecaa
