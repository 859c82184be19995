/- The specification puts a hold in order. -/
import Derived.Test.YtoojnhodjkpecaaLkS1
namespace Go.Proofs.Ytoojnhodjkpecaa
open Go.RowKit

/-- Block g is a box that holds these cells. -/
structure Bx (w : World) (g : Nat) (T : TypeId) (cs : Array Value) : Prop where
  row : w.heap[g]? = some (.cells cs T (0, 0))
theorem Bx.lt {w : World} {g : Nat} {T : TypeId} {cs : Array Value} (h : Bx w g T cs) : g < w.heap.size := (Array.getElem?_eq_some_iff.1 h.row).1
theorem Bx.cell {w : World} {g : Nat} {T : TypeId} {cs : Array Value} (h : Bx w g T cs) (j : Nat) : w.cell? ⟨g, j, none⟩ = cs[j]? := cell_of_row w _ j _ _ _ h.row
theorem Bx.free {w : World} {g : Nat} {T : TypeId} {cs : Array Value} (h : Bx w g T cs) (j : Nat) : w.frozen? ⟨g, j, none⟩ = false := frozen_of_row w _ j _ _ h.row
theorem Bx.far {w w' : World} {g : Nat} {T : TypeId} {cs : Array Value} {row : Option Nat} (h : Bx w g T cs) (hg : w.grownBy w' row) (hne : some g ≠ row) : Bx w' g T cs := ⟨(hg.block g h.lt hne).trans h.row⟩
theorem Bx.made (w : World) (T : TypeId) (cs : Array Value) : Bx (w.alloc (.cells cs T)) w.heap.size T cs := ⟨heap_alloc_new _ _⟩
theorem Bx.allocK {w : World} {g : Nat} {T : TypeId} {cs : Array Value} {o : Obj} (h : Bx w g T cs) : Bx (w.alloc o) g T cs := ⟨(heap_alloc_old _ _ h.lt).trans h.row⟩
theorem Bx.kept {w w' : World} {g : Nat} {T : TypeId} {cs : Array Value} (h : Bx w g T cs) (hb : Below w.heap.size w w') : Bx w' g T cs := ⟨(hb.block g h.lt).trans h.row⟩

theorem putS_A {h x : Hd} {s : List Hd × Bool} (h1 : s.2 = true) : putStep h s x = (s.1 ++ [x], true) := by simp [putStep, h1]
theorem putS_B {h x : Hd} {s : List Hd × Bool} (h1 : s.2 = false) (h2 : h.stamp < x.stamp) : putStep h s x = (s.1 ++ [h] ++ [x], true) := by simp [putStep, h1, h2]
theorem putS_C {h x : Hd} {s : List Hd × Bool} (h1 : s.2 = false) (h2 : ¬ h.stamp < x.stamp) : putStep h s x = (s.1 ++ [x], false) := by simp [putStep, h1, h2]

set_option maxRecDepth 100000 in
set_option maxHeartbeats 2000000 in
theorem put_any (v : Value) (hs : List Hd) (h : Hd) (w : World) (hv : RowAt hdE w v hs) (hm : hs.length ≤ 1000) :
    Calls Try.prog 47 #[v, hdV h] w fun e w' => ∃ r, e = .returned r ∧ w'.ownsRow w.heap.size 27 4 r (putL hs h).length ((putL hs h).flatMap hdE) ∧ Below w.heap.size w w' := by
  obtain ⟨a, cap, rfl, hl⟩ := hv.shape
  have HV := hide hv
  clear hv
  obtain ⟨hh, hhe⟩ : ∃ hh, hh = h := ⟨_, rfl⟩
  obtain ⟨s, t, sh, fm⟩ := h
  have HH := hide hhe
  clear hhe
  have HP : Hid (putL hs hh = if (putFold hh hs).2 = true then (putFold hh hs).1 else (putFold hh hs).1 ++ [hh]) := rfl
  rw [← unhide HH]
  have hvv : hdV hh = .agg #[.int .i64 s, .int .i64 t, .bool sh, .bool fm] := by rw [unhide HH]; rfl
  rw [hvv]
  clear hvv
  have hss : hh.stamp = s := by rw [unhide HH]
  have HSS := hide hss
  have hee : [hh].flatMap hdE = [.int .i64 s, .int .i64 t, .bool sh, .bool fm] := by rw [unhide HH]; rfl
  have HEE := hide hee
  clear hss hee
  generalize hN : hs.length = N at *
  have HN := hide hN
  clear hN
  unfold maxLen at hl
  obtain ⟨i0, hi, hz0, hz1, hz2⟩ := info_parts Try.infoHd
  go_enter Try.func47, Try.ntmps47
  go_wp2_with fail
  go_loopw [5, 6, 7] (fun r d i wr => ∃ k : Nat, k ≤ N ∧ i = .int .i64 k ∧ d = .bool (putFold hh (hs.take k)).2 ∧ wr.ownsRow (w.heap.size + 1) 27 4 r (putFold hh (hs.take k)).1.length ((putFold hh (hs.take k)).1.flatMap hdE) ∧ Bx wr w.heap.size 27 #[.int .i64 s, .int .i64 t, .bool sh, .bool fm] ∧ Below w.heap.size w wr) (fun _ _ i _ => N - (intOf i).toNat)
  case atStart =>
    refine ⟨0, Nat.zero_le _, rfl, rfl, ?_, (Bx.made w _ _).allocK, ((Below.refl _ _).alloc (Nat.le_refl _) _).alloc (by simp) _⟩
    have := World.ownsRow_made (w := w.alloc (.cells #[.int .i64 s, .int .i64 t, .bool sh, .bool fm] 27)) (base := w.heap.size + 1) (e := 27) (size := 4) #[] 0 (by simp) (by simp [maxLen]) (by simp)
    rw [show (w.alloc (.cells #[.int .i64 s, .int .i64 t, .bool sh, .bool fm] 27)).heap.size = w.heap.size + 1 from by simp] at this
    exact this
  case round =>
    obtain ⟨k, hk, rfl, rfl, hown, hbx, hb⟩ := hrel
    have hpl := putFold_length hh (hs.take k)
    have htl := List.length_take_le k hs
    obtain ⟨P, hP⟩ : ∃ P, P = putFold hh (hs.take k) := ⟨_, rfl⟩
    rw [← hP] at hown hpl ⊢
    have hPl : P.1.length ≤ 2000 := by omega
    obtain ⟨b0, b1, b2, b3⟩ := (⟨hbx.cell 0, hbx.cell 1, hbx.cell 2, hbx.cell 3⟩ : _ ∧ _ ∧ _ ∧ _)
    have hzr := hbx.lt
    by_cases hlt : k < N
    · obtain ⟨b, off, rfl⟩ := (unhide HV).some_of (by rw [unhide HN]; omega)
      obtain ⟨c0, c1, c2, c3⟩ := hd_cells ((unhide HV).kept hb) (i := k) (by rw [unhide HN]; exact hlt)
      have hst := putFold_step (h := hh) (hs := hs) (j := k) (by rw [unhide HN]; exact hlt)
      rw [← hP] at hst
      have HCE := hide (fun (ww : World) (hbb : Below w.heap.size w ww) => hd_cells ((unhide HV).kept hbb) (i := k) (by rw [unhide HN]; exact hlt))
      generalize hs.getD k Hd.z = x at *
      have HST := hide hst
      have HOW := hide hown
      have HBR := hide hb
      have HBX := hide hbx
      have HPP := hide hP
      have hkI : (k : Int) < (N : Int) := by omega
      have hk0' : (0 : Int) ≤ (k : Int) := by omega
      clear hst hown hb hbx hP hpl htl
      obtain ⟨P1, P2⟩ := P
      simp only at *
      have hxe : [x].flatMap hdE = [.int .i64 x.stamp, .int .i64 x.try_, .bool x.share, .bool x.firm] := rfl
      have HXE := hide hxe
      clear hxe
      cases P2
      · by_cases hsx : s < x.stamp
        · have HS2 : Hid (putFold hh (hs.take (k + 1)) = (P1 ++ [hh] ++ [x], true)) := by show putFold hh (hs.take (k + 1)) = _; rw [unhide HST, putS_B rfl (by rw [unhide HSS]; exact hsx)]
          go_wp2_with fail
          go_quiet (fail)
          rename Nat => nq
          have hbq : Below wr.heap.size wr (wr.drewN nq) := below_drewN (Below.refl _ _) nq
          have c0 := cell_kept hbq c0
          have c1 := cell_kept hbq c1
          have c2 := cell_kept hbq c2
          have c3 := cell_kept hbq c3
          have HXZ := hide ((unhide HBX).kept hbq)
          have HOZ := hide (ownsRow_below (unhide HOW) hbq)
          have HBZ : Hid (Below w.heap.size w (wr.drewN nq)) := (unhide HBR).trans (hbq.mono (unhide HBR).size)
          clear hbq HBX HOW HBR b0 b1 b2 b3
          generalize wr.drewN nq = wz at *
          have hzz := (unhide HXZ).lt
          obtain ⟨b0, b1, b2, b3⟩ := (⟨(unhide HXZ).cell 0, (unhide HXZ).cell 1, (unhide HXZ).cell 2, (unhide HXZ).cell 3⟩ : _ ∧ _ ∧ _ ∧ _)
          go_wp2_with (first
            | (have hq := HO9; clear hq; at_builtin; refine wpList_append_lies _ rfl _ _ 23 rfl (w.heap.size + 1) 27 i0 (.agg #[.int .i64 0, .int .i64 0, .bool false, .bool false]) 4 24 Try.underlying23 hi hz0 hz1 hz2 rfl (by decide) _ (P1.length + 1) _ rfl ((unhide HO9).alloc _) ⟨w9.heap.size, 0, none⟩ 1 1 [.int .i64 x.stamp, .int .i64 x.try_, .bool x.share, .bool x.firm] rfl rfl (World.news_of_block (heap_alloc_new _ _)) (by simp [Value.oneCell']) (by decide) (by unfold maxLen; omega) (by omega) (by simp; omega) (w9.heap.size + 1) (by simp) ?_; intro ga10 cp10 w10 hown10 hgrow10 hat10 hlt10; have HO10 : Hid (w10.ownsRow (w.heap.size + 1) 27 4 (.slice (some ⟨ga10, 0, none⟩) (P1.length + 1 + 1) cp10) (P1.length + 1 + 1) ((P1.flatMap hdE ++ [.int .i64 s, .int .i64 t, .bool sh, .bool fm]) ++ [.int .i64 x.stamp, .int .i64 x.try_, .bool x.share, .bool x.firm])) := hown10; have HB10 : Hid (Below w.heap.size w w10) := Below.grown ((unhide HB9).alloc (by omega) _) hgrow10 (by simp; omega) (fun q hq => by have := (unhide HO9).lt q hq; omega); have HX10 : Hid (Bx w10 w.heap.size 27 #[.int .i64 s, .int .i64 t, .bool sh, .bool fm]) := ((unhide HX9).allocK).far hgrow10 (fun e => by have := (unhide HO9).lt _ e.symm; omega); clear hown10 hgrow10)
            | (at_builtin; refine wpList_append_lies _ rfl _ _ 23 rfl (w.heap.size + 1) 27 i0 (.agg #[.int .i64 0, .int .i64 0, .bool false, .bool false]) 4 24 Try.underlying23 hi hz0 hz1 hz2 rfl (by decide) _ P1.length _ rfl ((unhide HOZ).alloc _) ⟨wz.heap.size, 0, none⟩ 1 1 [.int .i64 s, .int .i64 t, .bool sh, .bool fm] rfl rfl (World.news_of_block (heap_alloc_new _ _)) (by simp [Value.oneCell']) (by decide) (by unfold maxLen; omega) (by omega) (by simp; omega) (wz.heap.size + 1) (by simp) ?_; intro ga9 cp9 w9 hown9 hgrow9 hat9 hlt9; obtain ⟨f0, f1, f2, f3⟩ := unhide HCE w9 (Below.grown ((unhide HBZ).alloc (by omega) _) hgrow9 (by simp; omega) (fun q hq => by have := (unhide HOZ).lt q hq; omega)); have HO9 : Hid (w9.ownsRow (w.heap.size + 1) 27 4 (.slice (some ⟨ga9, 0, none⟩) (P1.length + 1) cp9) (P1.length + 1) (P1.flatMap hdE ++ [.int .i64 s, .int .i64 t, .bool sh, .bool fm])) := hown9; have HB9 : Hid (Below w.heap.size w w9) := Below.grown ((unhide HBZ).alloc (by omega) _) hgrow9 (by simp; omega) (fun q hq => by have := (unhide HOZ).lt q hq; omega); have HX9 : Hid (Bx w9 w.heap.size 27 #[.int .i64 s, .int .i64 t, .bool sh, .bool fm]) := ((unhide HXZ).allocK).far hgrow9 (fun e => by have := (unhide HOZ).lt _ e.symm; omega); have hz9 := (unhide HX9).lt; clear hown9 hgrow9 c0 c1 c2 c3))
          go_roundw
          case rel =>
            refine ⟨k + 1, hlt, by go_num, by rw [unhide HS2], ?_, unhide HX10, unhide HB10⟩
            rw [unhide HS2]
            simp only [List.flatMap_append, List.length_append, unhide HEE, unhide HXE]
            exact unhide HO10
          case measure => simp [intOf]; omega
        · have HS2 : Hid (putFold hh (hs.take (k + 1)) = (P1 ++ [x], false)) := by show putFold hh (hs.take (k + 1)) = _; rw [unhide HST, putS_C rfl (by rw [unhide HSS]; exact hsx)]
          go_wp2_with fail
          go_quiet (fail)
          rename Nat => nq
          have hbq : Below wr.heap.size wr (wr.drewN nq) := below_drewN (Below.refl _ _) nq
          have c0 := cell_kept hbq c0
          have c1 := cell_kept hbq c1
          have c2 := cell_kept hbq c2
          have c3 := cell_kept hbq c3
          have HXZ := hide ((unhide HBX).kept hbq)
          have HOZ := hide (ownsRow_below (unhide HOW) hbq)
          have HBZ : Hid (Below w.heap.size w (wr.drewN nq)) := (unhide HBR).trans (hbq.mono (unhide HBR).size)
          clear hbq HBX HOW HBR b0 b1 b2 b3
          generalize wr.drewN nq = wz at *
          have hzz := (unhide HXZ).lt
          obtain ⟨b0, b1, b2, b3⟩ := (⟨(unhide HXZ).cell 0, (unhide HXZ).cell 1, (unhide HXZ).cell 2, (unhide HXZ).cell 3⟩ : _ ∧ _ ∧ _ ∧ _)
          go_wp2_with (at_builtin; refine wpList_append_lies _ rfl _ _ 23 rfl (w.heap.size + 1) 27 i0 (.agg #[.int .i64 0, .int .i64 0, .bool false, .bool false]) 4 24 Try.underlying23 hi hz0 hz1 hz2 rfl (by decide) _ P1.length _ rfl ((unhide HOZ).alloc _) ⟨wz.heap.size, 0, none⟩ 1 1 [.int .i64 x.stamp, .int .i64 x.try_, .bool x.share, .bool x.firm] rfl rfl (World.news_of_block (heap_alloc_new _ _)) (by simp [Value.oneCell']) (by decide) (by unfold maxLen; omega) (by omega) (by simp; omega) (wz.heap.size + 1) (by simp) ?_; intro ga9 cp9 w9 hown9 hgrow9 hat9 hlt9)
          have HB9 : Hid (Below w.heap.size w w9) := Below.grown ((unhide HBZ).alloc (by omega) _) hgrow9 (by simp; omega) (fun q hq => by have := (unhide HOZ).lt q hq; omega)
          have HX9 : Hid (Bx w9 w.heap.size 27 #[.int .i64 s, .int .i64 t, .bool sh, .bool fm]) := ((unhide HXZ).allocK).far hgrow9 (fun e => by have := (unhide HOZ).lt _ e.symm; omega)
          go_roundw
          case rel =>
            refine ⟨k + 1, hlt, by go_num, by rw [unhide HS2], ?_, unhide HX9, unhide HB9⟩
            rw [unhide HS2]
            simp only [List.flatMap_append, List.length_append, unhide HXE]
            exact hown9
          case measure => simp [intOf]; omega
      · have HS2 : Hid (putFold hh (hs.take (k + 1)) = (P1 ++ [x], true)) := by show putFold hh (hs.take (k + 1)) = _; rw [unhide HST, putS_A rfl]
        go_wp2_with fail
        go_quiet (fail)
        rename Nat => nq
        have hbq : Below wr.heap.size wr (wr.drewN nq) := below_drewN (Below.refl _ _) nq
        have c0 := cell_kept hbq c0
        have c1 := cell_kept hbq c1
        have c2 := cell_kept hbq c2
        have c3 := cell_kept hbq c3
        have HXZ := hide ((unhide HBX).kept hbq)
        have HOZ := hide (ownsRow_below (unhide HOW) hbq)
        have HBZ : Hid (Below w.heap.size w (wr.drewN nq)) := (unhide HBR).trans (hbq.mono (unhide HBR).size)
        clear hbq HBX HOW HBR b0 b1 b2 b3
        generalize wr.drewN nq = wz at *
        have hzz := (unhide HXZ).lt
        obtain ⟨b0, b1, b2, b3⟩ := (⟨(unhide HXZ).cell 0, (unhide HXZ).cell 1, (unhide HXZ).cell 2, (unhide HXZ).cell 3⟩ : _ ∧ _ ∧ _ ∧ _)
        go_wp2_with (at_builtin; refine wpList_append_lies _ rfl _ _ 23 rfl (w.heap.size + 1) 27 i0 (.agg #[.int .i64 0, .int .i64 0, .bool false, .bool false]) 4 24 Try.underlying23 hi hz0 hz1 hz2 rfl (by decide) _ P1.length _ rfl ((unhide HOZ).alloc _) ⟨wz.heap.size, 0, none⟩ 1 1 [.int .i64 x.stamp, .int .i64 x.try_, .bool x.share, .bool x.firm] rfl rfl (World.news_of_block (heap_alloc_new _ _)) (by simp [Value.oneCell']) (by decide) (by unfold maxLen; omega) (by omega) (by simp; omega) (wz.heap.size + 1) (by simp) ?_; intro ga9 cp9 w9 hown9 hgrow9 hat9 hlt9)
        have HB9 : Hid (Below w.heap.size w w9) := Below.grown ((unhide HBZ).alloc (by omega) _) hgrow9 (by simp; omega) (fun q hq => by have := (unhide HOZ).lt q hq; omega)
        have HX9 : Hid (Bx w9 w.heap.size 27 #[.int .i64 s, .int .i64 t, .bool sh, .bool fm]) := ((unhide HXZ).allocK).far hgrow9 (fun e => by have := (unhide HOZ).lt _ e.symm; omega)
        go_roundw
        case rel =>
          refine ⟨k + 1, hlt, by go_num, by rw [unhide HS2], ?_, unhide HX9, unhide HB9⟩
          rw [unhide HS2]
          simp only [List.flatMap_append, List.length_append, unhide HXE]
          exact hown9
        case measure => simp [intOf]; omega
    · obtain rfl : k = N := by omega
      have hfull : hs.take k = hs := List.take_of_length_le (by rw [unhide HN]; omega)
      rw [hfull] at hP
      have hpp := unhide HP
      rw [← hP] at hpp
      obtain ⟨P1, P2⟩ := P
      simp only at *
      have HOW := hide hown
      have HBR := hide hb
      have HBX := hide hbx
      cases P2
      · have HPP : Hid (putL hs hh = P1 ++ [hh]) := by show putL hs hh = _; rw [hpp]; rfl
        clear hpp hP hown hb hbx hfull hpl htl
        go_wp2_with (at_builtin; refine wpList_append_lies _ rfl _ _ 23 rfl (w.heap.size + 1) 27 i0 (.agg #[.int .i64 0, .int .i64 0, .bool false, .bool false]) 4 24 Try.underlying23 hi hz0 hz1 hz2 rfl (by decide) _ P1.length _ rfl ((unhide HOW).alloc _) ⟨wr.heap.size, 0, none⟩ 1 1 [.int .i64 s, .int .i64 t, .bool sh, .bool fm] rfl rfl (World.news_of_block (heap_alloc_new _ _)) (by simp [Value.oneCell']) (by decide) (by unfold maxLen; omega) (by omega) (by simp; omega) (wr.heap.size + 1) (by simp) ?_; intro ga9 cp9 w9 hown9 hgrow9 hat9 hlt9)
        go_ret
        refine ⟨_, rfl, ?_, Below.grown ((unhide HBR).alloc (by omega) _) hgrow9 (by simp; omega) (fun q hq => by have := (unhide HOW).lt q hq; omega)⟩
        rw [unhide HPP, List.flatMap_append, List.length_append, unhide HEE]
        exact ownsRow_base hown9 (by omega)
      · have HPP : Hid (putL hs hh = P1) := by show putL hs hh = _; rw [hpp]; rfl
        clear hpp hP hown hb hbx hfull hpl htl
        go_wp2_with fail
        go_ret
        refine ⟨_, rfl, ?_, unhide HBR⟩
        rw [unhide HPP]; exact ownsRow_base (unhide HOW) (by omega)

end Go.Proofs.Ytoojnhodjkpecaa
