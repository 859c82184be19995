/- How a lock and who asks for it are drawn. -/
import Derived.Test.YtoojnhodjkpecaaDrL4
namespace Go.Proofs.Ytoojnhodjkpecaa
open Go.RowKit

theorem BytesAt.keptE {w w' : World} {v : Value} {n : Nat} (h : BytesAt w v n) (hb : Below w.heap.size w w') : BytesAt w' v n := by
  obtain ⟨a, cap, hv, h1, h2, h3⟩ := h
  refine ⟨a, cap, hv, h1, h2, ?_⟩
  rcases h3 with h3 | ⟨b, off, ha, bs, hbs⟩
  · exact .inl h3
  · exact .inr ⟨b, off, ha, bs, fun i hi => ⟨cell_kept hb (hbs i hi).1, (hbs i hi).2⟩⟩

theorem grownBy_setOwnE {w w' : World} {row : Option Nat} (h : w.grownBy w' row) {g : Nat} (hg : w.heap.size ≤ g) (j : Nat) (u : Value) : w.grownBy (w'.setCell ⟨g, j, none⟩ u) row := by
  have hs : w'.grownBy (w'.setCell ⟨g, j, none⟩ u) (some g) := grownBy_set (grownBy_refl w' (some g)) j u
  exact ⟨hs.os.trans h.os, hs.tape.trans h.tape, hs.output.trans h.output, Nat.le_trans h.size hs.size, fun k hk hne => (hs.block k (Nat.lt_of_lt_of_le hk h.size) (fun e => by simp at e; omega)).trans (h.block k hk hne)⟩
theorem Rd.setE {w : World} {B p g : Nat} (h : Rd w B p) (hg : B < g) (j : Nat) (u : Value) : Rd (w.setCell ⟨g, j, none⟩ u) B p :=
  h.far (grownBy_set (grownBy_refl w (some g)) j u) (fun y hy e => by simp at e; omega)
theorem grown4h (w : World) (g : Nat) (u0 u1 u2 u3 : Value) : w.grownBy ((((w.setCell ⟨g, 0, none⟩ u0).setCell ⟨g, 1, none⟩ u1).setCell ⟨g, 2, none⟩ u2).setCell ⟨g, 3, none⟩ u3) (some g) := grownBy_set (grownBy_set (grownBy_set (grownBy_set (grownBy_refl w (some g)) 0 u0) 1 u1) 2 u2) 3 u3
theorem ALk.endL {w wf : World} {q G : Nat} {slot : Int} {H W : List Hd} {a b : Value} {ys yt : Int} {yh yf : Bool} (h : ALk w wf q G ⟨slot, H, W⟩ a b) (wz : World)
    (hz : wz = ((((((wf.setCell ⟨w.heap.size, 0, none⟩ (.int .i64 slot)).setCell ⟨w.heap.size, 1, none⟩ a).setCell ⟨w.heap.size, 2, none⟩ b).setCell ⟨w.heap.size + 1, 0, none⟩ (.int .i64 ys)).setCell ⟨w.heap.size + 1, 1, none⟩ (.int .i64 yt)).setCell ⟨w.heap.size + 1, 2, none⟩ (.bool yh)).setCell ⟨w.heap.size + 1, 3, none⟩ (.bool yf)) :
    wz.heap[w.heap.size]? = some (.cells #[.int .i64 slot, a, b] 25 (0, 0)) ∧ wz.heap[w.heap.size + 1]? = some (.cells #[.int .i64 ys, .int .i64 yt, .bool yh, .bool yf] 27 (0, 0)) ∧ LkAt wz ⟨slot, H, W⟩ a b ∧ Below w.heap.size w wz := by
  subst hz
  have g1 := grown3 wf w.heap.size (.int .i64 slot) a b
  have x1 : Bx (((wf.setCell ⟨w.heap.size, 0, none⟩ (.int .i64 slot)).setCell ⟨w.heap.size, 1, none⟩ a).setCell ⟨w.heap.size, 2, none⟩ b) w.heap.size 25 #[.int .i64 slot, a, b] := ⟨heap_setCell_same _ _ _ _ _ _ (heap_setCell_same _ _ _ _ _ _ (heap_setCell_same _ _ _ _ _ _ h.resL.row))⟩
  have x2 := h.resH.far g1 (fun e => by simp at e)
  have k1 : LkAt (((wf.setCell ⟨w.heap.size, 0, none⟩ (.int .i64 slot)).setCell ⟨w.heap.size, 1, none⟩ a).setCell ⟨w.heap.size, 2, none⟩ b) ⟨slot, H, W⟩ a b := ⟨h.lk.held.far g1 (.inr (fun e => by have := h.ga _ e; omega)), h.lk.waits.far g1 (.inr (fun e => by have := h.gb _ e; omega))⟩
  have b1 : Below w.heap.size w (((wf.setCell ⟨w.heap.size, 0, none⟩ (.int .i64 slot)).setCell ⟨w.heap.size, 1, none⟩ a).setCell ⟨w.heap.size, 2, none⟩ b) := ((h.bel.setCell (by simp) _).setCell (by simp) _).setCell (by simp) _
  generalize (((wf.setCell ⟨w.heap.size, 0, none⟩ (.int .i64 slot)).setCell ⟨w.heap.size, 1, none⟩ a).setCell ⟨w.heap.size, 2, none⟩ b) = wm at *
  have g2 : wm.grownBy ((((wm.setCell ⟨w.heap.size + 1, 0, none⟩ (.int .i64 ys)).setCell ⟨w.heap.size + 1, 1, none⟩ (.int .i64 yt)).setCell ⟨w.heap.size + 1, 2, none⟩ (.bool yh)).setCell ⟨w.heap.size + 1, 3, none⟩ (.bool yf)) (some (w.heap.size + 1)) := grownBy_set (grownBy_set (grownBy_set (grownBy_set (grownBy_refl wm _) _ _) _ _) _ _) _ _
  exact ⟨(x1.far g2 (fun e => by simp at e)).row, heap_setCell_same _ _ _ _ _ _ (heap_setCell_same _ _ _ _ _ _ (heap_setCell_same _ _ _ _ _ _ (heap_setCell_same _ _ _ _ _ _ x2.row))), ⟨k1.held.far g2 (.inr (fun e => by have := h.ga _ e; omega)), k1.waits.far g2 (.inr (fun e => by have := h.gb _ e; omega))⟩, (((b1.setCell (by simp) _).setCell (by simp) _).setCell (by simp) _).setCell (by simp) _⟩

set_option maxRecDepth 100000 in
set_option maxHeartbeats 1000000 in
theorem l72HoldT_any (B p : Nat) (w : World) (hr : Rd w B p) (hp : p ≤ 900000) :
    Calls Try.prog 39 #[.pointer (some ⟨B, 0, none⟩)] w fun e w' => ∃ x : Hd, e = .returned (hdV x) ∧ x.try_ ≤ 9999 ∧ Rd w' B (p + 3) ∧ w.grownBy w' (some B) := by
  have hBl := hr.lt
  have HRD := hide (hr.allocK (o := .cells #[.int .i64 0, .int .i64 0, .bool false, .bool false] 27))
  have HX := hide (Bx.made w 27 #[.int .i64 0, .int .i64 0, .bool false, .bool false])
  have HG := hide (World.grownBy_alloc w (.cells #[.int .i64 0, .int .i64 0, .bool false, .bool false] 27) (some B))
  have hneB : some w.heap.size ≠ some B := by intro e; simp at e; omega
  clear hr
  go_enter Try.func39, Try.ntmps39
  go_wp2_with fail
  refine (pick_any B p 7 _ (unhide HRD) (by omega) (by omega)).mono ?_; rintro e w1 ⟨k1, rfl, a1, b1, r1, g1, -⟩
  have b1' := b1 (by omega)
  have hw1 : IntKind.i64.wrap (1 + k1) = 1 + k1 := by rw [IntKind.wrap_i64]; omega
  have HR1 := hide r1
  have HX1 := hide ((unhide HX).far g1 hneB)
  have HG1 := hide (grownBy_trans (unhide HG) g1)
  clear r1 g1 b1 HRD HX HG
  go_wp2_with fail
  refine (pick_any B (p + 1) 3 _ (unhide HR1) (by omega) (by omega)).mono ?_; rintro e w2 ⟨k2, rfl, a2, b2, r2, g2, -⟩
  have b2' := b2 (by omega)
  have hw2 : IntKind.i64.wrap (1 + k2) = 1 + k2 := by rw [IntKind.wrap_i64]; omega
  have HR2 := hide r2
  have HX2 := hide ((unhide HX1).far g2 hneB)
  have HG2 := hide (grownBy_trans (unhide HG1) g2)
  clear r2 g2 b2 HR1 HX1 HG1
  go_wp2_with fail
  refine (pick_any B (p + 1 + 1) 3 _ (unhide HR2) (by omega) (by omega)).mono ?_; rintro e w3 ⟨k3, rfl, a3, b3, r3, g3, -⟩
  have HR3 := hide r3
  have HX3 := hide ((unhide HX2).far g3 hneB)
  have HG3 := hide (grownBy_trans (unhide HG2) g3)
  clear r3 g3 b3 HR2 HX2 HG2
  go_wp2_with (refine wpList_store_row rfl 27 _ _ rfl w.heap.size _ rfl rfl 27 _ (unhide HX3).row (by kernel_rfl) rfl (by simp [Value.oneCell']) ?_)
  refine bodyPost_ret (results_cell_row rfl _ _ w.heap.size _ _ _ _ rfl (setRow_heap _ _ _ _ _ _ (unhide HX3).row) Try.underlying27 rfl (by kernel_rfl)) rfl ?_
  exact ⟨⟨1 + k1, 1 + k2, _, false⟩, rfl, by simp only; omega, (unhide HR3).rowD hBl _, grownBy_rowD (unhide HG3) (Nat.le_refl _) _⟩

set_option maxRecDepth 100000 in
set_option maxHeartbeats 4000000 in
theorem drawLockAsk_any (v : Value) (n : Nat) (w : World) (hv : BytesAt w v n) :
    Calls Try.prog 15 #[v] w fun e w' => ∃ (l : Lk) (a b : Value) (x : Hd), e = .returned (.tuple #[lkV l a b, hdV x]) ∧ LkAt w' l a b ∧ l.held.length ≤ 100 ∧ l.waits.length ≤ 100 ∧ x.try_ ≤ 9999 ∧ Below w.heap.size w w' := by
  have HV := hide hv
  clear hv
  go_enter Try.func15, Try.ntmps15
  go_wp2_with fail
  have bA : Below w.heap.size w ((w.alloc (.cells #[.int .i64 0, .slice none 0 0, .slice none 0 0] 25)).alloc (.cells #[.int .i64 0, .int .i64 0, .bool false, .bool false] 27)) := ((Below.refl _ _).alloc (Nat.le_refl _) _).alloc (by simp) _
  refine (open_any v n _ (BytesAt.keptE (unhide HV) bA)).mono ?_; rintro e w1 ⟨rfl, r1, b1, z1⟩
  have hsz : ((w.alloc (.cells #[.int .i64 0, .slice none 0 0, .slice none 0 0] 25)).alloc (.cells #[.int .i64 0, .int .i64 0, .bool false, .bool false] 27)).heap.size = w.heap.size + 2 := by simp
  rw [hsz] at r1 z1
  rw [hsz]
  have HR1 := hide r1
  have HXL := hide (((Bx.made w 25 #[.int .i64 0, .slice none 0 0, .slice none 0 0]).allocK (o := .cells #[.int .i64 0, .int .i64 0, .bool false, .bool false] 27)).kept b1)
  have HXH := hide (Bx.kept (⟨heap_alloc2_new w (.cells #[.int .i64 0, .slice none 0 0, .slice none 0 0] 25) (.cells #[.int .i64 0, .int .i64 0, .bool false, .bool false] 27)⟩ : Bx ((w.alloc (.cells #[.int .i64 0, .slice none 0 0, .slice none 0 0] 25)).alloc (.cells #[.int .i64 0, .int .i64 0, .bool false, .bool false] 27)) (w.heap.size + 1) 27 #[.int .i64 0, .int .i64 0, .bool false, .bool false]) b1)
  have HB1 := hide (bA.trans (b1.mono bA.size))
  have HZ1 := hide z1
  clear r1 b1 bA hsz z1 HV
  go_wp2_with fail
  refine (l72Lock_any (w.heap.size + 2) 0 _ (unhide HR1) (by omega)).mono ?_; rintro e w2 ⟨l, a, b, q, rfl, hk2, hn2, hm2, r2, hq2, g2, ga2, gb2⟩
  obtain ⟨a0, c0, rfl, -⟩ := hk2.held.shape
  obtain ⟨a1, c1, rfl, -⟩ := hk2.waits.shape
  obtain ⟨slot, H, W⟩ := l
  have z1 := unhide HZ1
  have s2 := g2.size
  have HA2 : Hid (ALk w (w2.alloc (.cells #[.int .i64 slot, .slice a0 H.length c0, .slice a1 W.length c1] 25)) q w2.heap.size ⟨slot, H, W⟩ (.slice a0 H.length c0) (.slice a1 W.length c1)) :=
    ⟨((unhide HXL).far g2 (fun e => by simp at e)).allocK, ((unhide HXH).far g2 (fun e => by simp at e)).allocK, Bx.made _ _ _, hk2.kept ((Below.refl _ _).alloc (Nat.le_refl _) _), fun k e => by have := ga2 k e; omega, fun k e => by have := gb2 k e; omega, by omega, r2.allocK, (Below.grown (unhide HB1) g2 (unhide HB1).size (fun k e => by simp at e; omega)).alloc (by have := (unhide HB1).size; omega) _, hn2, hm2⟩
  simp only [lkV]
  clear hk2 r2 g2 ga2 gb2 z1 s2 HXL HXH HB1 HR1 HZ1
  go_wp2_with fail
  refine (l72HoldT_any (w.heap.size + 2) q _ (unhide HA2).rd (by omega)).mono ?_; rintro e w3 ⟨x, rfl, ht3, r3, g3⟩
  have HA3 := hide ((unhide HA2).pick g3 r3)
  obtain ⟨xs, xt, xh, xf⟩ := x
  have HT3 : Hid (xt ≤ 9999) := ht3
  clear ht3
  simp only [hdV]
  have l3 := (unhide HA3).box.lt
  have l3' := (unhide HA3).gl
  clear r3 g3 HA2
  go_wp2_with fail
  refine (pick_any (w.heap.size + 2) (q + 3) 12 _ ((unhide HA3).allocK (o := .cells #[.int .i64 xs, .int .i64 xt, .bool xh, .bool xf] 27)).rd (by omega) (by omega)).mono ?_; rintro e w4 ⟨k4, rfl, a4, b4, r4, g4, -⟩
  have HG4 := hide (grownBy_trans (World.grownBy_alloc w3 (.cells #[.int .i64 xs, .int .i64 xt, .bool xh, .bool xf] 27) (some (w.heap.size + 2))) g4)
  have HR4 := hide r4
  have HH4 := hide ((Bx.made w3 27 #[.int .i64 xs, .int .i64 xt, .bool xh, .bool xf]).far g4 (fun e => by simp at e; omega))
  have l4 := (unhide HH4).lt
  clear r4 g4 a4 b4
  cases t0 : (k4 == 0)
  · cases t1 : (k4 == 1)
    · cases t2 : (k4 == 2)
      ·
        have hgf := unhide HG4
        have hrf := unhide HR4
        have hhf := (unhide HH4).row
        have HA := hide ((unhide HA3).pick hgf hrf)
        have HH : Hid (Bx w4 w3.heap.size 27 #[.int .i64 xs, .int .i64 xt, .bool xh, .bool xf]) := ⟨hhf⟩
        clear hgf hrf hhf
        go_wp2_with fail
        refine wp_region_held_drew (S := fun w' => Bx w' w2.heap.size 25 #[.int .i64 slot, .slice a0 H.length c0, .slice a1 W.length c1] ∧ Bx w' w3.heap.size 27 #[.int .i64 xs, .int .i64 xt, .bool xh, .bool xf]) (by kernel_rfl) ⟨⟨(unhide HA).box.row⟩, ⟨(unhide HH).row⟩⟩ (fun hHeld => ?_)
        refine wpAnyH_take (i := 0) (v := .agg #[.int .i64 slot, .slice a0 H.length c0, .slice a1 W.length c1]) rfl (by kernel_rfl) (by kernel_rfl) (by kernel_rfl) (fun _ _ _ h => h) (Or.inl ⟨by rfl, ?ha⟩) (by assumption) ?_
        case ha => exact fun w0 hSw => load_yieldsB 25 (.tmp 5) rfl rfl hSw.1 Try.underlying25 (by kernel_rfl)
        try simp only [Act.put]
        refine wpAnyH_take (i := 1) (v := .agg #[.int .i64 xs, .int .i64 xt, .bool xh, .bool xf]) rfl (by kernel_rfl) (by kernel_rfl) (by kernel_rfl) (fun _ _ _ h => h) (Or.inl ⟨by rfl, ?hb⟩) (by assumption) ?_
        case hb => exact fun w0 hSw => load_yieldsB 27 (.tmp 6) rfl rfl hSw.2 Try.underlying27 (by kernel_rfl)
        try simp only [Act.put]
        obtain ⟨z0, z1, z2⟩ := (unhide HA).resL.three
        obtain ⟨z3, z4, z5⟩ := (unhide HA).resL.free3
        obtain ⟨y0, y1, y2, y3⟩ := (unhide HA).resH.four
        have f0 := (unhide HA).resH.free 0
        have f1 := (unhide HA).resH.free 1
        have f2 := (unhide HA).resH.free 2
        have f3 := (unhide HA).resH.free 3
        refine wpAnyH_ready (rs := [2]) (by kernel_rfl) (by simp) ?_
        refine AllReadyH.cons rfl (fun K hK => ?_) AllReadyH.nil
        go_simp
        try go_wp2_with fail
        clear hHeld
        refine hK.out _ _ ⟨((unhide HA).box.far (grown3 w4 w.heap.size (.int .i64 slot) (.slice a0 H.length c0) (.slice a1 W.length c1)) (fun e => by simp at e; omega)).drewK, ((unhide HH).far (grown3 w4 w.heap.size (.int .i64 slot) (.slice a0 H.length c0) (.slice a1 W.length c1)) (fun e => by simp at e; omega)).drewK⟩ (fun hHeld => ?_)
        clear hK K z0 z1 z2 z3 z4 z5 y0 y1 y2 y3 f0 f1 f2 f3
        have hxm := (unhide HA).resH.far (grown3 w4 w.heap.size (.int .i64 slot) (.slice a0 H.length c0) (.slice a1 W.length c1)) (fun e => by simp at e)
        obtain ⟨y0, y1, y2, y3⟩ := hxm.four
        have f0 := hxm.free 0
        have f1 := hxm.free 1
        have f2 := hxm.free 2
        have f3 := hxm.free 3
        clear hxm
        have HEND := hide (ALk.endL (ys := xs) (yt := xt) (yh := xh) (yf := xf) (unhide HA) _ rfl)
        refine wpAnyH_ready (rs := [3]) (by kernel_rfl) (by simp) ?_
        refine AllReadyH.cons rfl (fun K hK => ?_) AllReadyH.nil
        go_simp
        try go_wp2_with fail
        clear hHeld
        refine hK.out _ _ ?_ (fun hHeld => ?_)
        · exact ⟨(((unhide HA).box.far (grown3 w4 w.heap.size (.int .i64 slot) (.slice a0 H.length c0) (.slice a1 W.length c1)) (fun e => by simp at e; omega)).far (grown4h _ (w.heap.size + 1) _ _ _ _) (fun e => by simp at e; omega)).drewK, (((unhide HH).far (grown3 w4 w.heap.size (.int .i64 slot) (.slice a0 H.length c0) (.slice a1 W.length c1)) (fun e => by simp at e; omega)).far (grown4h _ (w.heap.size + 1) _ _ _ _) (fun e => by simp at e; omega)).drewK⟩
        clear hK K
        refine wpAnyH_done (by kernel_rfl) ?_ _
        go_wp2_with fail
        obtain ⟨e1, e2, e3, e4⟩ := unhide HEND
        refine bodyPost_ret (results_row_row rfl _ _ w.heap.size (w.heap.size + 1) _ _ _ _ rfl rfl (Bx.drewK (Bx.mk e1)).row (Bx.drewK (Bx.mk e2)).row Try.underlying25 (by kernel_rfl) Try.underlying27 (by kernel_rfl)) rfl ?_
        exact ⟨⟨slot, H, W⟩, _, _, ⟨xs, xt, xh, xf⟩, rfl, e3.kept ((Below.refl _ _).drew), hn2, hm2, by first | exact unhide HT3 | (simp only; omega), e4.drew⟩
      ·
        have hgf := unhide HG4
        have hrf := unhide HR4
        have hhf := (unhide HH4).row
        replace hgf := grownBy_setOwnE hgf (Nat.le_refl _) 1 (.int .i64 0)
        replace hrf := hrf.setE (g := w3.heap.size) (by omega) 1 (.int .i64 0)
        replace hhf := heap_setCell_same _ _ 1 _ _ (.int .i64 0) hhf
        have HA := hide ((unhide HA3).pick hgf hrf)
        have HH : Hid (Bx (w4.setCell ⟨w3.heap.size, 1, none⟩ (.int .i64 0)) w3.heap.size 27 #[.int .i64 xs, .int .i64 0, .bool xh, .bool xf]) := ⟨by simpa using hhf⟩
        clear hgf hrf hhf
        obtain ⟨p0, p1, p2, p3⟩ := (unhide HH4).four
        have p4 := (unhide HH4).free 0
        have p5 := (unhide HH4).free 1
        have p6 := (unhide HH4).free 2
        have p7 := (unhide HH4).free 3
        go_wp2_with fail
        clear p0 p1 p2 p3 p4 p5 p6 p7
        refine wp_region_held_drew (S := fun w' => Bx w' w2.heap.size 25 #[.int .i64 slot, .slice a0 H.length c0, .slice a1 W.length c1] ∧ Bx w' w3.heap.size 27 #[.int .i64 xs, .int .i64 0, .bool xh, .bool xf]) (by kernel_rfl) ⟨⟨(unhide HA).box.row⟩, ⟨(unhide HH).row⟩⟩ (fun hHeld => ?_)
        refine wpAnyH_take (i := 0) (v := .agg #[.int .i64 slot, .slice a0 H.length c0, .slice a1 W.length c1]) rfl (by kernel_rfl) (by kernel_rfl) (by kernel_rfl) (fun _ _ _ h => h) (Or.inl ⟨by rfl, ?ha⟩) (by assumption) ?_
        case ha => exact fun w0 hSw => load_yieldsB 25 (.tmp 5) rfl rfl hSw.1 Try.underlying25 (by kernel_rfl)
        try simp only [Act.put]
        refine wpAnyH_take (i := 1) (v := .agg #[.int .i64 xs, .int .i64 0, .bool xh, .bool xf]) rfl (by kernel_rfl) (by kernel_rfl) (by kernel_rfl) (fun _ _ _ h => h) (Or.inl ⟨by rfl, ?hb⟩) (by assumption) ?_
        case hb => exact fun w0 hSw => load_yieldsB 27 (.tmp 6) rfl rfl hSw.2 Try.underlying27 (by kernel_rfl)
        try simp only [Act.put]
        obtain ⟨z0, z1, z2⟩ := (unhide HA).resL.three
        obtain ⟨z3, z4, z5⟩ := (unhide HA).resL.free3
        obtain ⟨y0, y1, y2, y3⟩ := (unhide HA).resH.four
        have f0 := (unhide HA).resH.free 0
        have f1 := (unhide HA).resH.free 1
        have f2 := (unhide HA).resH.free 2
        have f3 := (unhide HA).resH.free 3
        refine wpAnyH_ready (rs := [2]) (by kernel_rfl) (by simp) ?_
        refine AllReadyH.cons rfl (fun K hK => ?_) AllReadyH.nil
        go_simp
        try go_wp2_with fail
        clear hHeld
        refine hK.out _ _ ⟨((unhide HA).box.far (grown3 (w4.setCell ⟨w3.heap.size, 1, none⟩ (.int .i64 0)) w.heap.size (.int .i64 slot) (.slice a0 H.length c0) (.slice a1 W.length c1)) (fun e => by simp at e; omega)).drewK, ((unhide HH).far (grown3 (w4.setCell ⟨w3.heap.size, 1, none⟩ (.int .i64 0)) w.heap.size (.int .i64 slot) (.slice a0 H.length c0) (.slice a1 W.length c1)) (fun e => by simp at e; omega)).drewK⟩ (fun hHeld => ?_)
        clear hK K z0 z1 z2 z3 z4 z5 y0 y1 y2 y3 f0 f1 f2 f3
        have hxm := (unhide HA).resH.far (grown3 (w4.setCell ⟨w3.heap.size, 1, none⟩ (.int .i64 0)) w.heap.size (.int .i64 slot) (.slice a0 H.length c0) (.slice a1 W.length c1)) (fun e => by simp at e)
        obtain ⟨y0, y1, y2, y3⟩ := hxm.four
        have f0 := hxm.free 0
        have f1 := hxm.free 1
        have f2 := hxm.free 2
        have f3 := hxm.free 3
        clear hxm
        have HEND := hide (ALk.endL (ys := xs) (yt := 0) (yh := xh) (yf := xf) (unhide HA) _ rfl)
        refine wpAnyH_ready (rs := [3]) (by kernel_rfl) (by simp) ?_
        refine AllReadyH.cons rfl (fun K hK => ?_) AllReadyH.nil
        go_simp
        try go_wp2_with fail
        clear hHeld
        refine hK.out _ _ ?_ (fun hHeld => ?_)
        · exact ⟨(((unhide HA).box.far (grown3 (w4.setCell ⟨w3.heap.size, 1, none⟩ (.int .i64 0)) w.heap.size (.int .i64 slot) (.slice a0 H.length c0) (.slice a1 W.length c1)) (fun e => by simp at e; omega)).far (grown4h _ (w.heap.size + 1) _ _ _ _) (fun e => by simp at e; omega)).drewK, (((unhide HH).far (grown3 (w4.setCell ⟨w3.heap.size, 1, none⟩ (.int .i64 0)) w.heap.size (.int .i64 slot) (.slice a0 H.length c0) (.slice a1 W.length c1)) (fun e => by simp at e; omega)).far (grown4h _ (w.heap.size + 1) _ _ _ _) (fun e => by simp at e; omega)).drewK⟩
        clear hK K
        refine wpAnyH_done (by kernel_rfl) ?_ _
        go_wp2_with fail
        obtain ⟨e1, e2, e3, e4⟩ := unhide HEND
        refine bodyPost_ret (results_row_row rfl _ _ w.heap.size (w.heap.size + 1) _ _ _ _ rfl rfl (Bx.drewK (Bx.mk e1)).row (Bx.drewK (Bx.mk e2)).row Try.underlying25 (by kernel_rfl) Try.underlying27 (by kernel_rfl)) rfl ?_
        exact ⟨⟨slot, H, W⟩, _, _, ⟨xs, 0, xh, xf⟩, rfl, e3.kept ((Below.refl _ _).drew), hn2, hm2, by first | exact unhide HT3 | (simp only; omega), e4.drew⟩
    ·
      go_wp2_with fail
      refine (pick_any (w.heap.size + 2) (q + 3 + 1) 3 _ ((unhide HR4).allocK (o := .cells #[.int .i64 0, .int .i64 9999, .int .i64 10000] 3)) (by omega) (by omega)).mono ?_; rintro e w8 ⟨k8, rfl, a8, b8, r8, g8, -⟩
      obtain ⟨Kx, rfl⟩ := Int.eq_ofNat_of_zero_le a8
      have b8' := b8 (by omega)
      have z8 := (Bx.made w4 3 #[.int .i64 0, .int .i64 9999, .int .i64 10000]).far g8 (fun e => by simp at e; omega)
      have z80 : w8.cell? ⟨w4.heap.size, 0, none⟩ = some (.int .i64 0) := z8.cell 0
      have z81 : w8.cell? ⟨w4.heap.size, 1, none⟩ = some (.int .i64 9999) := z8.cell 1
      have z82 : w8.cell? ⟨w4.heap.size, 2, none⟩ = some (.int .i64 10000) := z8.cell 2
      have HG8 := hide (grownBy_trans (grownBy_trans (unhide HG4) (World.grownBy_alloc w4 (.cells #[.int .i64 0, .int .i64 9999, .int .i64 10000] 3) (some (w.heap.size + 2)))) g8)
      have HR8 := hide r8
      have HH8 := hide (((unhide HH4).allocK (o := .cells #[.int .i64 0, .int .i64 9999, .int .i64 10000] 3)).far g8 (fun e => by simp at e; omega))
      clear r8 g8 z8 b8 a8 HG4 HR4 HH4
      have hKx : Kx = 0 ∨ Kx = 1 ∨ Kx = 2 := by omega
      clear b8'
      rcases hKx with rfl | rfl | rfl
      ·
        have hgf := unhide HG8
        have hrf := unhide HR8
        have hhf := (unhide HH8).row
        replace hgf := grownBy_setOwnE hgf (Nat.le_refl _) 0 (.int .i64 0)
        replace hrf := hrf.setE (g := w3.heap.size) (by omega) 0 (.int .i64 0)
        replace hhf := heap_setCell_same _ _ 0 _ _ (.int .i64 0) hhf
        have HA := hide ((unhide HA3).pick hgf hrf)
        have HH : Hid (Bx (w8.setCell ⟨w3.heap.size, 0, none⟩ (.int .i64 0)) w3.heap.size 27 #[.int .i64 0, .int .i64 xt, .bool xh, .bool xf]) := ⟨by simpa using hhf⟩
        clear hgf hrf hhf
        obtain ⟨p0, p1, p2, p3⟩ := (unhide HH8).four
        have p4 := (unhide HH8).free 0
        have p5 := (unhide HH8).free 1
        have p6 := (unhide HH8).free 2
        have p7 := (unhide HH8).free 3
        go_wp2_with fail
        clear p0 p1 p2 p3 p4 p5 p6 p7
        refine wp_region_held_drew (S := fun w' => Bx w' w2.heap.size 25 #[.int .i64 slot, .slice a0 H.length c0, .slice a1 W.length c1] ∧ Bx w' w3.heap.size 27 #[.int .i64 0, .int .i64 xt, .bool xh, .bool xf]) (by kernel_rfl) ⟨⟨(unhide HA).box.row⟩, ⟨(unhide HH).row⟩⟩ (fun hHeld => ?_)
        refine wpAnyH_take (i := 0) (v := .agg #[.int .i64 slot, .slice a0 H.length c0, .slice a1 W.length c1]) rfl (by kernel_rfl) (by kernel_rfl) (by kernel_rfl) (fun _ _ _ h => h) (Or.inl ⟨by rfl, ?ha⟩) (by assumption) ?_
        case ha => exact fun w0 hSw => load_yieldsB 25 (.tmp 5) rfl rfl hSw.1 Try.underlying25 (by kernel_rfl)
        try simp only [Act.put]
        refine wpAnyH_take (i := 1) (v := .agg #[.int .i64 0, .int .i64 xt, .bool xh, .bool xf]) rfl (by kernel_rfl) (by kernel_rfl) (by kernel_rfl) (fun _ _ _ h => h) (Or.inl ⟨by rfl, ?hb⟩) (by assumption) ?_
        case hb => exact fun w0 hSw => load_yieldsB 27 (.tmp 6) rfl rfl hSw.2 Try.underlying27 (by kernel_rfl)
        try simp only [Act.put]
        obtain ⟨z0, z1, z2⟩ := (unhide HA).resL.three
        obtain ⟨z3, z4, z5⟩ := (unhide HA).resL.free3
        obtain ⟨y0, y1, y2, y3⟩ := (unhide HA).resH.four
        have f0 := (unhide HA).resH.free 0
        have f1 := (unhide HA).resH.free 1
        have f2 := (unhide HA).resH.free 2
        have f3 := (unhide HA).resH.free 3
        refine wpAnyH_ready (rs := [2]) (by kernel_rfl) (by simp) ?_
        refine AllReadyH.cons rfl (fun K hK => ?_) AllReadyH.nil
        go_simp
        try go_wp2_with fail
        clear hHeld
        refine hK.out _ _ ⟨((unhide HA).box.far (grown3 (w8.setCell ⟨w3.heap.size, 0, none⟩ (.int .i64 0)) w.heap.size (.int .i64 slot) (.slice a0 H.length c0) (.slice a1 W.length c1)) (fun e => by simp at e; omega)).drewK, ((unhide HH).far (grown3 (w8.setCell ⟨w3.heap.size, 0, none⟩ (.int .i64 0)) w.heap.size (.int .i64 slot) (.slice a0 H.length c0) (.slice a1 W.length c1)) (fun e => by simp at e; omega)).drewK⟩ (fun hHeld => ?_)
        clear hK K z0 z1 z2 z3 z4 z5 y0 y1 y2 y3 f0 f1 f2 f3
        have hxm := (unhide HA).resH.far (grown3 (w8.setCell ⟨w3.heap.size, 0, none⟩ (.int .i64 0)) w.heap.size (.int .i64 slot) (.slice a0 H.length c0) (.slice a1 W.length c1)) (fun e => by simp at e)
        obtain ⟨y0, y1, y2, y3⟩ := hxm.four
        have f0 := hxm.free 0
        have f1 := hxm.free 1
        have f2 := hxm.free 2
        have f3 := hxm.free 3
        clear hxm
        have HEND := hide (ALk.endL (ys := 0) (yt := xt) (yh := xh) (yf := xf) (unhide HA) _ rfl)
        refine wpAnyH_ready (rs := [3]) (by kernel_rfl) (by simp) ?_
        refine AllReadyH.cons rfl (fun K hK => ?_) AllReadyH.nil
        go_simp
        try go_wp2_with fail
        clear hHeld
        refine hK.out _ _ ?_ (fun hHeld => ?_)
        · exact ⟨(((unhide HA).box.far (grown3 (w8.setCell ⟨w3.heap.size, 0, none⟩ (.int .i64 0)) w.heap.size (.int .i64 slot) (.slice a0 H.length c0) (.slice a1 W.length c1)) (fun e => by simp at e; omega)).far (grown4h _ (w.heap.size + 1) _ _ _ _) (fun e => by simp at e; omega)).drewK, (((unhide HH).far (grown3 (w8.setCell ⟨w3.heap.size, 0, none⟩ (.int .i64 0)) w.heap.size (.int .i64 slot) (.slice a0 H.length c0) (.slice a1 W.length c1)) (fun e => by simp at e; omega)).far (grown4h _ (w.heap.size + 1) _ _ _ _) (fun e => by simp at e; omega)).drewK⟩
        clear hK K
        refine wpAnyH_done (by kernel_rfl) ?_ _
        go_wp2_with fail
        obtain ⟨e1, e2, e3, e4⟩ := unhide HEND
        refine bodyPost_ret (results_row_row rfl _ _ w.heap.size (w.heap.size + 1) _ _ _ _ rfl rfl (Bx.drewK (Bx.mk e1)).row (Bx.drewK (Bx.mk e2)).row Try.underlying25 (by kernel_rfl) Try.underlying27 (by kernel_rfl)) rfl ?_
        exact ⟨⟨slot, H, W⟩, _, _, ⟨0, xt, xh, xf⟩, rfl, e3.kept ((Below.refl _ _).drew), hn2, hm2, by first | exact unhide HT3 | (simp only; omega), e4.drew⟩
      ·
        have hgf := unhide HG8
        have hrf := unhide HR8
        have hhf := (unhide HH8).row
        replace hgf := grownBy_setOwnE hgf (Nat.le_refl _) 0 (.int .i64 9999)
        replace hrf := hrf.setE (g := w3.heap.size) (by omega) 0 (.int .i64 9999)
        replace hhf := heap_setCell_same _ _ 0 _ _ (.int .i64 9999) hhf
        have HA := hide ((unhide HA3).pick hgf hrf)
        have HH : Hid (Bx (w8.setCell ⟨w3.heap.size, 0, none⟩ (.int .i64 9999)) w3.heap.size 27 #[.int .i64 9999, .int .i64 xt, .bool xh, .bool xf]) := ⟨by simpa using hhf⟩
        clear hgf hrf hhf
        obtain ⟨p0, p1, p2, p3⟩ := (unhide HH8).four
        have p4 := (unhide HH8).free 0
        have p5 := (unhide HH8).free 1
        have p6 := (unhide HH8).free 2
        have p7 := (unhide HH8).free 3
        go_wp2_with fail
        clear p0 p1 p2 p3 p4 p5 p6 p7
        refine wp_region_held_drew (S := fun w' => Bx w' w2.heap.size 25 #[.int .i64 slot, .slice a0 H.length c0, .slice a1 W.length c1] ∧ Bx w' w3.heap.size 27 #[.int .i64 9999, .int .i64 xt, .bool xh, .bool xf]) (by kernel_rfl) ⟨⟨(unhide HA).box.row⟩, ⟨(unhide HH).row⟩⟩ (fun hHeld => ?_)
        refine wpAnyH_take (i := 0) (v := .agg #[.int .i64 slot, .slice a0 H.length c0, .slice a1 W.length c1]) rfl (by kernel_rfl) (by kernel_rfl) (by kernel_rfl) (fun _ _ _ h => h) (Or.inl ⟨by rfl, ?ha⟩) (by assumption) ?_
        case ha => exact fun w0 hSw => load_yieldsB 25 (.tmp 5) rfl rfl hSw.1 Try.underlying25 (by kernel_rfl)
        try simp only [Act.put]
        refine wpAnyH_take (i := 1) (v := .agg #[.int .i64 9999, .int .i64 xt, .bool xh, .bool xf]) rfl (by kernel_rfl) (by kernel_rfl) (by kernel_rfl) (fun _ _ _ h => h) (Or.inl ⟨by rfl, ?hb⟩) (by assumption) ?_
        case hb => exact fun w0 hSw => load_yieldsB 27 (.tmp 6) rfl rfl hSw.2 Try.underlying27 (by kernel_rfl)
        try simp only [Act.put]
        obtain ⟨z0, z1, z2⟩ := (unhide HA).resL.three
        obtain ⟨z3, z4, z5⟩ := (unhide HA).resL.free3
        obtain ⟨y0, y1, y2, y3⟩ := (unhide HA).resH.four
        have f0 := (unhide HA).resH.free 0
        have f1 := (unhide HA).resH.free 1
        have f2 := (unhide HA).resH.free 2
        have f3 := (unhide HA).resH.free 3
        refine wpAnyH_ready (rs := [2]) (by kernel_rfl) (by simp) ?_
        refine AllReadyH.cons rfl (fun K hK => ?_) AllReadyH.nil
        go_simp
        try go_wp2_with fail
        clear hHeld
        refine hK.out _ _ ⟨((unhide HA).box.far (grown3 (w8.setCell ⟨w3.heap.size, 0, none⟩ (.int .i64 9999)) w.heap.size (.int .i64 slot) (.slice a0 H.length c0) (.slice a1 W.length c1)) (fun e => by simp at e; omega)).drewK, ((unhide HH).far (grown3 (w8.setCell ⟨w3.heap.size, 0, none⟩ (.int .i64 9999)) w.heap.size (.int .i64 slot) (.slice a0 H.length c0) (.slice a1 W.length c1)) (fun e => by simp at e; omega)).drewK⟩ (fun hHeld => ?_)
        clear hK K z0 z1 z2 z3 z4 z5 y0 y1 y2 y3 f0 f1 f2 f3
        have hxm := (unhide HA).resH.far (grown3 (w8.setCell ⟨w3.heap.size, 0, none⟩ (.int .i64 9999)) w.heap.size (.int .i64 slot) (.slice a0 H.length c0) (.slice a1 W.length c1)) (fun e => by simp at e)
        obtain ⟨y0, y1, y2, y3⟩ := hxm.four
        have f0 := hxm.free 0
        have f1 := hxm.free 1
        have f2 := hxm.free 2
        have f3 := hxm.free 3
        clear hxm
        have HEND := hide (ALk.endL (ys := 9999) (yt := xt) (yh := xh) (yf := xf) (unhide HA) _ rfl)
        refine wpAnyH_ready (rs := [3]) (by kernel_rfl) (by simp) ?_
        refine AllReadyH.cons rfl (fun K hK => ?_) AllReadyH.nil
        go_simp
        try go_wp2_with fail
        clear hHeld
        refine hK.out _ _ ?_ (fun hHeld => ?_)
        · exact ⟨(((unhide HA).box.far (grown3 (w8.setCell ⟨w3.heap.size, 0, none⟩ (.int .i64 9999)) w.heap.size (.int .i64 slot) (.slice a0 H.length c0) (.slice a1 W.length c1)) (fun e => by simp at e; omega)).far (grown4h _ (w.heap.size + 1) _ _ _ _) (fun e => by simp at e; omega)).drewK, (((unhide HH).far (grown3 (w8.setCell ⟨w3.heap.size, 0, none⟩ (.int .i64 9999)) w.heap.size (.int .i64 slot) (.slice a0 H.length c0) (.slice a1 W.length c1)) (fun e => by simp at e; omega)).far (grown4h _ (w.heap.size + 1) _ _ _ _) (fun e => by simp at e; omega)).drewK⟩
        clear hK K
        refine wpAnyH_done (by kernel_rfl) ?_ _
        go_wp2_with fail
        obtain ⟨e1, e2, e3, e4⟩ := unhide HEND
        refine bodyPost_ret (results_row_row rfl _ _ w.heap.size (w.heap.size + 1) _ _ _ _ rfl rfl (Bx.drewK (Bx.mk e1)).row (Bx.drewK (Bx.mk e2)).row Try.underlying25 (by kernel_rfl) Try.underlying27 (by kernel_rfl)) rfl ?_
        exact ⟨⟨slot, H, W⟩, _, _, ⟨9999, xt, xh, xf⟩, rfl, e3.kept ((Below.refl _ _).drew), hn2, hm2, by first | exact unhide HT3 | (simp only; omega), e4.drew⟩
      ·
        have hgf := unhide HG8
        have hrf := unhide HR8
        have hhf := (unhide HH8).row
        replace hgf := grownBy_setOwnE hgf (Nat.le_refl _) 0 (.int .i64 10000)
        replace hrf := hrf.setE (g := w3.heap.size) (by omega) 0 (.int .i64 10000)
        replace hhf := heap_setCell_same _ _ 0 _ _ (.int .i64 10000) hhf
        have HA := hide ((unhide HA3).pick hgf hrf)
        have HH : Hid (Bx (w8.setCell ⟨w3.heap.size, 0, none⟩ (.int .i64 10000)) w3.heap.size 27 #[.int .i64 10000, .int .i64 xt, .bool xh, .bool xf]) := ⟨by simpa using hhf⟩
        clear hgf hrf hhf
        obtain ⟨p0, p1, p2, p3⟩ := (unhide HH8).four
        have p4 := (unhide HH8).free 0
        have p5 := (unhide HH8).free 1
        have p6 := (unhide HH8).free 2
        have p7 := (unhide HH8).free 3
        go_wp2_with fail
        clear p0 p1 p2 p3 p4 p5 p6 p7
        refine wp_region_held_drew (S := fun w' => Bx w' w2.heap.size 25 #[.int .i64 slot, .slice a0 H.length c0, .slice a1 W.length c1] ∧ Bx w' w3.heap.size 27 #[.int .i64 10000, .int .i64 xt, .bool xh, .bool xf]) (by kernel_rfl) ⟨⟨(unhide HA).box.row⟩, ⟨(unhide HH).row⟩⟩ (fun hHeld => ?_)
        refine wpAnyH_take (i := 0) (v := .agg #[.int .i64 slot, .slice a0 H.length c0, .slice a1 W.length c1]) rfl (by kernel_rfl) (by kernel_rfl) (by kernel_rfl) (fun _ _ _ h => h) (Or.inl ⟨by rfl, ?ha⟩) (by assumption) ?_
        case ha => exact fun w0 hSw => load_yieldsB 25 (.tmp 5) rfl rfl hSw.1 Try.underlying25 (by kernel_rfl)
        try simp only [Act.put]
        refine wpAnyH_take (i := 1) (v := .agg #[.int .i64 10000, .int .i64 xt, .bool xh, .bool xf]) rfl (by kernel_rfl) (by kernel_rfl) (by kernel_rfl) (fun _ _ _ h => h) (Or.inl ⟨by rfl, ?hb⟩) (by assumption) ?_
        case hb => exact fun w0 hSw => load_yieldsB 27 (.tmp 6) rfl rfl hSw.2 Try.underlying27 (by kernel_rfl)
        try simp only [Act.put]
        obtain ⟨z0, z1, z2⟩ := (unhide HA).resL.three
        obtain ⟨z3, z4, z5⟩ := (unhide HA).resL.free3
        obtain ⟨y0, y1, y2, y3⟩ := (unhide HA).resH.four
        have f0 := (unhide HA).resH.free 0
        have f1 := (unhide HA).resH.free 1
        have f2 := (unhide HA).resH.free 2
        have f3 := (unhide HA).resH.free 3
        refine wpAnyH_ready (rs := [2]) (by kernel_rfl) (by simp) ?_
        refine AllReadyH.cons rfl (fun K hK => ?_) AllReadyH.nil
        go_simp
        try go_wp2_with fail
        clear hHeld
        refine hK.out _ _ ⟨((unhide HA).box.far (grown3 (w8.setCell ⟨w3.heap.size, 0, none⟩ (.int .i64 10000)) w.heap.size (.int .i64 slot) (.slice a0 H.length c0) (.slice a1 W.length c1)) (fun e => by simp at e; omega)).drewK, ((unhide HH).far (grown3 (w8.setCell ⟨w3.heap.size, 0, none⟩ (.int .i64 10000)) w.heap.size (.int .i64 slot) (.slice a0 H.length c0) (.slice a1 W.length c1)) (fun e => by simp at e; omega)).drewK⟩ (fun hHeld => ?_)
        clear hK K z0 z1 z2 z3 z4 z5 y0 y1 y2 y3 f0 f1 f2 f3
        have hxm := (unhide HA).resH.far (grown3 (w8.setCell ⟨w3.heap.size, 0, none⟩ (.int .i64 10000)) w.heap.size (.int .i64 slot) (.slice a0 H.length c0) (.slice a1 W.length c1)) (fun e => by simp at e)
        obtain ⟨y0, y1, y2, y3⟩ := hxm.four
        have f0 := hxm.free 0
        have f1 := hxm.free 1
        have f2 := hxm.free 2
        have f3 := hxm.free 3
        clear hxm
        have HEND := hide (ALk.endL (ys := 10000) (yt := xt) (yh := xh) (yf := xf) (unhide HA) _ rfl)
        refine wpAnyH_ready (rs := [3]) (by kernel_rfl) (by simp) ?_
        refine AllReadyH.cons rfl (fun K hK => ?_) AllReadyH.nil
        go_simp
        try go_wp2_with fail
        clear hHeld
        refine hK.out _ _ ?_ (fun hHeld => ?_)
        · exact ⟨(((unhide HA).box.far (grown3 (w8.setCell ⟨w3.heap.size, 0, none⟩ (.int .i64 10000)) w.heap.size (.int .i64 slot) (.slice a0 H.length c0) (.slice a1 W.length c1)) (fun e => by simp at e; omega)).far (grown4h _ (w.heap.size + 1) _ _ _ _) (fun e => by simp at e; omega)).drewK, (((unhide HH).far (grown3 (w8.setCell ⟨w3.heap.size, 0, none⟩ (.int .i64 10000)) w.heap.size (.int .i64 slot) (.slice a0 H.length c0) (.slice a1 W.length c1)) (fun e => by simp at e; omega)).far (grown4h _ (w.heap.size + 1) _ _ _ _) (fun e => by simp at e; omega)).drewK⟩
        clear hK K
        refine wpAnyH_done (by kernel_rfl) ?_ _
        go_wp2_with fail
        obtain ⟨e1, e2, e3, e4⟩ := unhide HEND
        refine bodyPost_ret (results_row_row rfl _ _ w.heap.size (w.heap.size + 1) _ _ _ _ rfl rfl (Bx.drewK (Bx.mk e1)).row (Bx.drewK (Bx.mk e2)).row Try.underlying25 (by kernel_rfl) Try.underlying27 (by kernel_rfl)) rfl ?_
        exact ⟨⟨slot, H, W⟩, _, _, ⟨10000, xt, xh, xf⟩, rfl, e3.kept ((Below.refl _ _).drew), hn2, hm2, by first | exact unhide HT3 | (simp only; omega), e4.drew⟩
  ·
    have hgf := unhide HG4
    have hrf := unhide HR4
    have hhf := (unhide HH4).row
    replace hgf := grownBy_setOwnE hgf (Nat.le_refl _) 3 (.bool true)
    replace hrf := hrf.setE (g := w3.heap.size) (by omega) 3 (.bool true)
    replace hhf := heap_setCell_same _ _ 3 _ _ (.bool true) hhf
    have HA := hide ((unhide HA3).pick hgf hrf)
    have HH : Hid (Bx (w4.setCell ⟨w3.heap.size, 3, none⟩ (.bool true)) w3.heap.size 27 #[.int .i64 xs, .int .i64 xt, .bool xh, .bool true]) := ⟨by simpa using hhf⟩
    clear hgf hrf hhf
    obtain ⟨p0, p1, p2, p3⟩ := (unhide HH4).four
    have p4 := (unhide HH4).free 0
    have p5 := (unhide HH4).free 1
    have p6 := (unhide HH4).free 2
    have p7 := (unhide HH4).free 3
    go_wp2_with fail
    clear p0 p1 p2 p3 p4 p5 p6 p7
    refine wp_region_held_drew (S := fun w' => Bx w' w2.heap.size 25 #[.int .i64 slot, .slice a0 H.length c0, .slice a1 W.length c1] ∧ Bx w' w3.heap.size 27 #[.int .i64 xs, .int .i64 xt, .bool xh, .bool true]) (by kernel_rfl) ⟨⟨(unhide HA).box.row⟩, ⟨(unhide HH).row⟩⟩ (fun hHeld => ?_)
    refine wpAnyH_take (i := 0) (v := .agg #[.int .i64 slot, .slice a0 H.length c0, .slice a1 W.length c1]) rfl (by kernel_rfl) (by kernel_rfl) (by kernel_rfl) (fun _ _ _ h => h) (Or.inl ⟨by rfl, ?ha⟩) (by assumption) ?_
    case ha => exact fun w0 hSw => load_yieldsB 25 (.tmp 5) rfl rfl hSw.1 Try.underlying25 (by kernel_rfl)
    try simp only [Act.put]
    refine wpAnyH_take (i := 1) (v := .agg #[.int .i64 xs, .int .i64 xt, .bool xh, .bool true]) rfl (by kernel_rfl) (by kernel_rfl) (by kernel_rfl) (fun _ _ _ h => h) (Or.inl ⟨by rfl, ?hb⟩) (by assumption) ?_
    case hb => exact fun w0 hSw => load_yieldsB 27 (.tmp 6) rfl rfl hSw.2 Try.underlying27 (by kernel_rfl)
    try simp only [Act.put]
    obtain ⟨z0, z1, z2⟩ := (unhide HA).resL.three
    obtain ⟨z3, z4, z5⟩ := (unhide HA).resL.free3
    obtain ⟨y0, y1, y2, y3⟩ := (unhide HA).resH.four
    have f0 := (unhide HA).resH.free 0
    have f1 := (unhide HA).resH.free 1
    have f2 := (unhide HA).resH.free 2
    have f3 := (unhide HA).resH.free 3
    refine wpAnyH_ready (rs := [2]) (by kernel_rfl) (by simp) ?_
    refine AllReadyH.cons rfl (fun K hK => ?_) AllReadyH.nil
    go_simp
    try go_wp2_with fail
    clear hHeld
    refine hK.out _ _ ⟨((unhide HA).box.far (grown3 (w4.setCell ⟨w3.heap.size, 3, none⟩ (.bool true)) w.heap.size (.int .i64 slot) (.slice a0 H.length c0) (.slice a1 W.length c1)) (fun e => by simp at e; omega)).drewK, ((unhide HH).far (grown3 (w4.setCell ⟨w3.heap.size, 3, none⟩ (.bool true)) w.heap.size (.int .i64 slot) (.slice a0 H.length c0) (.slice a1 W.length c1)) (fun e => by simp at e; omega)).drewK⟩ (fun hHeld => ?_)
    clear hK K z0 z1 z2 z3 z4 z5 y0 y1 y2 y3 f0 f1 f2 f3
    have hxm := (unhide HA).resH.far (grown3 (w4.setCell ⟨w3.heap.size, 3, none⟩ (.bool true)) w.heap.size (.int .i64 slot) (.slice a0 H.length c0) (.slice a1 W.length c1)) (fun e => by simp at e)
    obtain ⟨y0, y1, y2, y3⟩ := hxm.four
    have f0 := hxm.free 0
    have f1 := hxm.free 1
    have f2 := hxm.free 2
    have f3 := hxm.free 3
    clear hxm
    have HEND := hide (ALk.endL (ys := xs) (yt := xt) (yh := xh) (yf := true) (unhide HA) _ rfl)
    refine wpAnyH_ready (rs := [3]) (by kernel_rfl) (by simp) ?_
    refine AllReadyH.cons rfl (fun K hK => ?_) AllReadyH.nil
    go_simp
    try go_wp2_with fail
    clear hHeld
    refine hK.out _ _ ?_ (fun hHeld => ?_)
    · exact ⟨(((unhide HA).box.far (grown3 (w4.setCell ⟨w3.heap.size, 3, none⟩ (.bool true)) w.heap.size (.int .i64 slot) (.slice a0 H.length c0) (.slice a1 W.length c1)) (fun e => by simp at e; omega)).far (grown4h _ (w.heap.size + 1) _ _ _ _) (fun e => by simp at e; omega)).drewK, (((unhide HH).far (grown3 (w4.setCell ⟨w3.heap.size, 3, none⟩ (.bool true)) w.heap.size (.int .i64 slot) (.slice a0 H.length c0) (.slice a1 W.length c1)) (fun e => by simp at e; omega)).far (grown4h _ (w.heap.size + 1) _ _ _ _) (fun e => by simp at e; omega)).drewK⟩
    clear hK K
    refine wpAnyH_done (by kernel_rfl) ?_ _
    go_wp2_with fail
    obtain ⟨e1, e2, e3, e4⟩ := unhide HEND
    refine bodyPost_ret (results_row_row rfl _ _ w.heap.size (w.heap.size + 1) _ _ _ _ rfl rfl (Bx.drewK (Bx.mk e1)).row (Bx.drewK (Bx.mk e2)).row Try.underlying25 (by kernel_rfl) Try.underlying27 (by kernel_rfl)) rfl ?_
    exact ⟨⟨slot, H, W⟩, _, _, ⟨xs, xt, xh, true⟩, rfl, e3.kept ((Below.refl _ _).drew), hn2, hm2, by first | exact unhide HT3 | (simp only; omega), e4.drew⟩

end Go.Proofs.Ytoojnhodjkpecaa
