/- Maps: the specification's map at first, and a move. -/
import Derived.Test.YtapihjjklinbdaaMapS2
namespace Go.Proofs.Ytapihjjklinbdaa
open Go.RowKit

theorem moveC_bad {v : Int} {xs : List Int} (s t : Int) (h : mapOk v xs = false) : moveC v xs s t = 9 ∧ moveV v xs s t = 0 ∧ moveL v xs s t = [] := by simp [moveC, moveV, moveL, h]
theorem moveC_ok {v : Int} {xs : List Int} {s t : Int} (h : mapOk v xs = true) (hc : moveCode v xs s t ≠ 0) : moveC v xs s t = moveCode v xs s t ∧ moveV v xs s t = v ∧ moveL v xs s t = xs := by simp [moveC, moveV, moveL, h, hc]
theorem moveC_done {v : Int} {xs : List Int} {s t : Int} (h : mapOk v xs = true) (hc : moveCode v xs s t = 0) : moveC v xs s t = 0 ∧ moveV v xs s t = v + 1 ∧ moveL v xs s t = xs.set s.toNat t := by simp [moveC, moveV, moveL, h, hc]
theorem code_9 {v : Int} {xs : List Int} {s t : Int} (h : (slB s && hsB t) = false) : moveCode v xs s t = 9 := by simp only [moveCode, h]; rfl
theorem code_2 {v : Int} {xs : List Int} {s t : Int} (h1 : slB s = true) (h2 : hsB t = true) (h : v = 99) : moveCode v xs s t = 2 := by simp [moveCode, h1, h2, h]
theorem code_3 {v : Int} {xs : List Int} {s t : Int} (h1 : slB s = true) (h2 : hsB t = true) (h : v ≠ 99) (h3 : xs.getD s.toNat 0 = t) : moveCode v xs s t = 3 := by
  simp only [moveCode, h1, h2, h, h3]; simp
theorem code_0 {v : Int} {xs : List Int} {s t : Int} (h1 : slB s = true) (h2 : hsB t = true) (h : v ≠ 99) (h3 : xs.getD s.toNat 0 ≠ t) : moveCode v xs s t = 0 := by
  simp only [moveCode, h1, h2, h, h3]; simp

set_option maxRecDepth 100000 in
set_option maxHeartbeats 4000000 in
theorem specMove_any (v : Int) (u : Value) (xs : List Int) (s t : Int) (w : World) (hu : InsAt w u xs) :
    Calls Try.prog 35 #[.agg #[.int .i64 v, u], .int .i64 s, .int .i64 t] w fun e w' => ∃ r, e = .returned (.tuple #[.agg #[.int .i64 (moveV v xs s t), r], .int .i64 (moveC v xs s t)]) ∧ w'.ownsRow w.heap.size 3 1 r (moveL v xs s t).length ((moveL v xs s t).map (Value.int .i64)) ∧ Below w.heap.size w w' := by
  have HU := hide hu
  obtain ⟨a, cap, rfl, h1, h2, h3⟩ := hu
  generalize hN : xs.length = N at *
  have HN := hide hN
  clear hN
  unfold maxLen at h2
  have bA : Below w.heap.size w ((w.alloc (.cells #[.int .i64 v, .slice a N cap] 31)).alloc (.cells #[.int .i64 0, .slice none 0 0] 31)) := ((Below.refl _ _).alloc (Nat.le_refl _) _).alloc (by simp) _
  cases hm : mapOk v xs
  · obtain ⟨e1, e2, e3⟩ := moveC_bad s t hm
    rw [e1, e2, e3]
    go_enter Try.func35, Try.ntmps35
    go_wp2_with fail
    refine (specMapOk_any v _ xs _ ((unhide HU).kept bA)).mono ?_; rintro e w1 ⟨rfl, hb1⟩
    have HB := hide (bA.trans (hb1.mono bA.size))
    have HR : Hid (w1.heap[w.heap.size + 1]? = some (.cells #[.int .i64 0, .slice none 0 0] 31 (0, 0))) := (hb1.block (w.heap.size + 1) (by simp)).trans (heap_alloc2_new _ _ _)
    have k0 := cell_of_row w1 _ 0 _ _ _ (unhide HR)
    have k1 := cell_of_row w1 _ 1 _ _ _ (unhide HR)
    have f0 := frozen_of_row w1 _ 0 _ _ (unhide HR)
    have f1 := frozen_of_row w1 _ 1 _ _ (unhide HR)
    simp at k0 k1
    clear hb1 bA
    go_wp2_with fail
    refine bodyPost_ret (results_row_tmp rfl _ _ (w.heap.size + 1) _ _ _ _ rfl (heap_setCell_same _ _ _ _ _ _ (heap_setCell_same _ _ _ _ _ _ (unhide HR))) Try.underlying31 rfl (by kernel_rfl)) rfl ?_
    exact ⟨.slice none 0 0, by simp, World.ownsRow_nil _ _ _ _, ((unhide HB).setCell (by simp) _).setCell (by simp) _⟩
  go_enter Try.func35, Try.ntmps35
  go_wp2_with fail
  refine (specMapOk_any v _ xs _ ((unhide HU).kept bA)).mono ?_; rintro e w1 ⟨rfl, hb1⟩
  have b1 := bA.trans (hb1.mono bA.size)
  have z1 := hb1.size
  simp at z1
  have HR1 : Hid (w1.heap[w.heap.size + 1]? = some (.cells #[.int .i64 0, .slice none 0 0] 31 (0, 0))) := (hb1.block (w.heap.size + 1) (by simp)).trans (heap_alloc2_new _ _ _)
  have HM1 : Hid (w1.heap[w.heap.size]? = some (.cells #[.int .i64 v, .slice a N cap] 31 (0, 0))) := (hb1.block w.heap.size (by simp; omega)).trans (heap_alloc2_old _ _ _)
  have m0 := cell_of_row w1 _ 0 _ _ _ (unhide HM1)
  have m1 := cell_of_row w1 _ 1 _ _ _ (unhide HM1)
  simp at m0 m1
  have HB1 := hide b1
  clear hb1 bA b1
  have hlen := mapOk_len hm
  go_wp2_with fail
  refine (specCopy_any v _ xs _ ((unhide HU).kept (unhide HB1)) (by omega) (by omega)).mono ?_; rintro e w2 ⟨g, gc, rfl, ho2, hb2⟩
  have HB2 := hide ((unhide HB1).trans (hb2.mono (unhide HB1).size))
  have z2 := hb2.size
  have HO2 := hide ho2
  obtain ⟨hat2, hrm⟩ := owned_ins (by rw [hlen] at ho2 ⊢; exact ho2)
  obtain ⟨gl, hroom⟩ : w1.heap.size ≤ g ∧ g < w2.heap.size ∧ Room w2 g 8 := by
    rcases hrm with ⟨h, _⟩ | ⟨g', c', h, hl', hg', hr'⟩
    · simp at h
    · simp at h
      obtain ⟨rfl, _, _⟩ := h
      exact ⟨hl', hg', by rw [hlen] at hr'; exact hr'⟩
  obtain ⟨gh, hroom⟩ := hroom
  have HR2 : Hid (w2.heap[w.heap.size + 1]? = some (.cells #[.int .i64 0, .slice none 0 0] 31 (0, 0))) := (hb2.block (w.heap.size + 1) (by omega)).trans (unhide HR1)
  have HM2 : Hid (w2.heap[w.heap.size]? = some (.cells #[.int .i64 v, .slice a N cap] 31 (0, 0))) := (hb2.block w.heap.size (by omega)).trans (unhide HM1)
  rw [hlen]
  rw [unhide HN] at hlen
  subst hlen
  obtain ⟨b, off, rfl, hc⟩ : ∃ b off, a = some ⟨b, off, none⟩ ∧ InCells w b off 8 xs := by
    rcases h3 with h3 | h3
    · have := unhide HN; subst h3; simp at this
    · exact h3
  clear h3
  have HC2 := hide (hc.kept (unhide HB2))
  have k0 := cell_of_row w2 _ 0 _ _ _ (unhide HR2)
  have k1 := cell_of_row w2 _ 1 _ _ _ (unhide HR2)
  have f0 := frozen_of_row w2 _ 0 _ _ (unhide HR2)
  have f1 := frozen_of_row w2 _ 1 _ _ (unhide HR2)
  have n0 := cell_of_row w2 _ 0 _ _ _ (unhide HM2)
  have n1 := cell_of_row w2 _ 1 _ _ _ (unhide HM2)
  simp at k0 k1 n0 n1
  have HROOM := hide hroom
  have HVB := hide (mapOk_ver hm)
  clear m0 m1 HR1 HM1 hb2 ho2 hat2 hrm hroom hc h1 h2 HU
  have b1 : (w.heap.size + 1) < w2.heap.size := by omega
  have b0 : w.heap.size < w2.heap.size := by omega
  have fin : ∀ c : Int, moveCode v xs s t = c → c ≠ 0 → moveC v xs s t = c ∧ moveV v xs s t = v ∧ moveL v xs s t = xs := fun c h1 h2 => by
    have := moveC_ok hm (s := s) (t := t) (by rw [h1]; exact h2)
    rw [h1] at this; exact this
  have FIN := hide fin
  have HMV := hide hm
  clear fin hm
  cases hs : inB s 0 7
  · have HE := hide (unhide FIN 9 (code_9 (by simp [slB, hs])) (by decide))
    go_wp2_with (go_at_call 56; refine (l6In_any _ _ _ _).mono ?_; rintro e w' ⟨rfl, rfl⟩)
    refine bodyPost_ret (results_row_tmp rfl _ _ (w.heap.size + 1) _ _ _ _ rfl ((heap_alloc_old _ _ (by simp; omega)).trans (heap_setCell_same _ _ _ _ _ _ (heap_setCell_same _ _ _ _ _ _ (unhide HR2)))) Try.underlying31 rfl (by kernel_rfl)) rfl ?_
    obtain ⟨e1, e2, e3⟩ := unhide HE
    rw [e1, e2, e3]
    refine ⟨.slice (some ⟨g, 0, none⟩) 8 gc, by simp, ?_, (((unhide HB2).setCell (by simp) _).setCell (by simp) _).alloc (by simp; omega) _⟩
    have ho := unhide HO2
    rw [unhide HN] at ho ⊢
    exact ownsRow_base ((ownsRow_setCell_other (ownsRow_setCell_other ho (by simp [Value.ownBlock]; omega)) (by simp [Value.ownBlock]; omega)).alloc _) (by omega)
  cases ht : inB t 0 2
  · have HE := hide (unhide FIN 9 (code_9 (by simp [hsB, ht])) (by decide))
    go_wp2_with (go_at_call 56; refine (l6In_any _ _ _ _).mono ?_; rintro e w' ⟨rfl, rfl⟩)
    refine bodyPost_ret (results_row_tmp rfl _ _ (w.heap.size + 1) _ _ _ _ rfl ((heap_alloc_old _ _ (by simp; omega)).trans (heap_setCell_same _ _ _ _ _ _ (heap_setCell_same _ _ _ _ _ _ (unhide HR2)))) Try.underlying31 rfl (by kernel_rfl)) rfl ?_
    obtain ⟨e1, e2, e3⟩ := unhide HE
    rw [e1, e2, e3]
    refine ⟨.slice (some ⟨g, 0, none⟩) 8 gc, by simp, ?_, (((unhide HB2).setCell (by simp) _).setCell (by simp) _).alloc (by simp; omega) _⟩
    have ho := unhide HO2
    rw [unhide HN] at ho ⊢
    exact ownsRow_base ((ownsRow_setCell_other (ownsRow_setCell_other ho (by simp [Value.ownBlock]; omega)) (by simp [Value.ownBlock]; omega)).alloc _) (by omega)
  obtain ⟨vb1, vb2⟩ := unhide HVB
  by_cases hv : v = 99
  · have HE := hide (unhide FIN 2 (code_2 hs ht hv) (by decide))
    have hv' : 99 ≤ v := by omega
    clear hv
    go_wp2_with (go_at_call 56; refine (l6In_any _ _ _ _).mono ?_; rintro e w' ⟨rfl, rfl⟩)
    refine bodyPost_ret (results_row_tmp rfl _ _ (w.heap.size + 1) _ _ _ _ rfl ((heap_alloc_old _ _ (by simp; omega)).trans (heap_setCell_same _ _ _ _ _ _ (heap_setCell_same _ _ _ _ _ _ (unhide HR2)))) Try.underlying31 rfl (by kernel_rfl)) rfl ?_
    obtain ⟨e1, e2, e3⟩ := unhide HE
    rw [e1, e2, e3]
    refine ⟨.slice (some ⟨g, 0, none⟩) 8 gc, by simp, ?_, (((unhide HB2).setCell (by simp) _).setCell (by simp) _).alloc (by simp; omega) _⟩
    have ho := unhide HO2
    rw [unhide HN] at ho ⊢
    exact ownsRow_base ((ownsRow_setCell_other (ownsRow_setCell_other ho (by simp [Value.ownBlock]; omega)) (by simp [Value.ownBlock]; omega)).alloc _) (by omega)
  have hv' : ¬ 99 ≤ v := by omega
  obtain ⟨s1, s2⟩ := slB_bounds hs
  obtain ⟨S, rfl⟩ := Int.eq_ofNat_of_zero_le s1
  have hS8 : S < 8 := by omega
  have hS8' : (S : Int) < 8 := by omega
  have c0 := (unhide HC2) S hS8
  generalize hx : xs.getD S 0 = x at c0
  have bltb : b < w2.heap.size := lt_of_cell c0
  by_cases hxt : x = t
  · have hxb : (x == t) = true := by simpa using hxt
    have HE := hide (unhide FIN 3 (code_3 hs ht hv (by simpa [hxt] using hx)) (by decide))
    clear hv hxt hx
    go_wp2_with (go_at_call 56; refine (l6In_any _ _ _ _).mono ?_; rintro e w' ⟨rfl, rfl⟩)
    refine bodyPost_ret (results_row_tmp rfl _ _ (w.heap.size + 1) _ _ _ _ rfl ((heap_alloc_old _ _ (by simp; omega)).trans (heap_setCell_same _ _ _ _ _ _ (heap_setCell_same _ _ _ _ _ _ (unhide HR2)))) Try.underlying31 rfl (by kernel_rfl)) rfl ?_
    obtain ⟨e1, e2, e3⟩ := unhide HE
    rw [e1, e2, e3]
    refine ⟨.slice (some ⟨g, 0, none⟩) 8 gc, by simp, ?_, (((unhide HB2).setCell (by simp) _).setCell (by simp) _).alloc (by simp; omega) _⟩
    have ho := unhide HO2
    rw [unhide HN] at ho ⊢
    exact ownsRow_base ((ownsRow_setCell_other (ownsRow_setCell_other ho (by simp [Value.ownBlock]; omega)) (by simp [Value.ownBlock]; omega)).alloc _) (by omega)
  · have hxb : (x == t) = false := by simpa using hxt
    have HE := hide (moveC_done (unhide HMV) (code_0 (xs := xs) hs ht hv (by rw [Int.toNat_natCast, hx]; exact hxt)))
    obtain ⟨⟨u0, r0⟩, r1⟩ := (unhide HROOM) S hS8
    clear hv hxt hx
    go_wp2_with (go_at_call 56; refine (l6In_any _ _ _ _).mono ?_; rintro e w' ⟨rfl, rfl⟩)
    have HR3 : Hid ((w2.setCell ⟨g, S, none⟩ (.int .i64 t)).heap[w.heap.size + 1]? = some (.cells #[.int .i64 0, .slice none 0 0] 31 (0, 0))) := (heap_setCell_other _ _ _ _ (by show w.heap.size + 1 ≠ g; omega)).trans (unhide HR2)
    refine bodyPost_ret (results_row_tmp rfl _ _ (w.heap.size + 1) _ _ _ _ rfl ((heap_alloc_old _ _ (by simp; omega)).trans (heap_setCell_same _ _ _ _ _ _ (heap_setCell_same _ _ _ _ _ _ (unhide HR3)))) Try.underlying31 rfl (by kernel_rfl)) rfl ?_
    obtain ⟨e1, e2, e3⟩ := unhide HE
    rw [e1, e2, e3]
    refine ⟨.slice (some ⟨g, 0, none⟩) 8 gc, by simp, ?_, ((((unhide HB2).setCell (by show w.heap.size ≤ g; omega) _).setCell (by simp) _).setCell (by simp) _).alloc (by simp; omega) _⟩
    have ho := unhide HO2
    rw [unhide HN] at ho
    rw [List.length_set, unhide HN, Int.toNat_natCast]
    exact ownsRow_base ((ownsRow_setCell_other (ownsRow_setCell_other (ownsRow_set ho t) (by simp [Value.ownBlock]; omega)) (by simp [Value.ownBlock]; omega)).alloc _) (by omega)

/-- What is under way while the map at first is made. -/
structure StartAt (w wr : World) (k : Nat) (a : Option Addr) (n c : Nat) : Prop where
  below : Below w.heap.size w wr
  z : wr.heap[w.heap.size]? = some (.cells #[.int .i64 0, .slice none 0 0] 31 (0, 0))
  m : wr.heap[w.heap.size + 1]? = some (.cells #[.int .i64 1, .slice a n c] 31 (0, 0))
  own : wr.ownsRow (w.heap.size + 2) 3 1 (.slice a n c) k ((startL k).map (Value.int .i64))

set_option maxRecDepth 100000 in
set_option maxHeartbeats 2000000 in
theorem specStart_any (w : World) :
    Calls Try.prog 22 #[] w fun e w' => ∃ a n c, e = .returned (.agg #[.int .i64 1, .slice a n c]) ∧ w'.ownsRow w.heap.size 3 1 (.slice a n c) 8 ((startL 8).map (Value.int .i64)) ∧ Below w.heap.size w w' := by
  obtain ⟨i0, hi, hz0, hz1, hz2⟩ := info_parts Try.infoI1
  go_enter Try.func22, Try.ntmps22
  go_wp2_with fail
  go_loopw [2] (fun i wr => ∃ (k : Nat) (a : Option Addr) (n c : Nat), k ≤ 8 ∧ i = .int .i64 k ∧ StartAt w wr k a n c) (fun i _ => 8 - (intOf i).toNat)
  case atStart =>
    exact ⟨0, none, 0, 0, by omega, rfl, ((Below.refl _ _).alloc (Nat.le_refl _) _).alloc (by simp) _, heap_alloc2_old _ _ _, heap_alloc2_new _ _ _, World.ownsRow_nil _ _ _ _⟩
  case round =>
    obtain ⟨k, a, n, c, hk, rfl, hst⟩ := hrel
    have HST := hide hst
    have m0 := cell_of_row wr _ 0 _ _ _ hst.m
    have m1 := cell_of_row wr _ 1 _ _ _ hst.m
    have f0 := frozen_of_row wr _ 0 _ _ hst.m
    have f1 := frozen_of_row wr _ 1 _ _ hst.m
    have l1 : w.heap.size + 1 < wr.heap.size := lt_of_cell (a := ⟨w.heap.size + 1, 1, none⟩) (by rw [m1]; rfl)
    simp at m0 m1
    clear hst
    by_cases hlt : k < 8
    · go_wp2_with (at_builtin; refine wpList_append_lies _ rfl _ _ 22 rfl (w.heap.size + 2) 3 i0 (.int .i64 0) 1 8 Try.underlying22 hi hz0 hz1 hz2 rfl (by decide) _ k _ rfl ((unhide HST).own.alloc _) ⟨wr.heap.size, 0, none⟩ 1 1 [.int .i64 ((k : Int) % 3)] rfl rfl (World.news_of_block (heap_alloc_new _ _)) (by simp [Value.oneCell']) (by decide) (by unfold maxLen; omega) (by omega) (by simp; omega) (wr.heap.size + 1) (by simp) ?_; intro g cp w1 hown2 hgrow hat hlt2; have hq : ∀ q, (Value.slice a n c).ownBlock = some q → w.heap.size + 2 ≤ q := fun q hq => ((unhide HST).own.lt q hq).1; have HM : Hid (w1.heap[w.heap.size + 1]? = some (.cells #[.int .i64 1, .slice a n c] 31 (0, 0))) := (hgrow.block (w.heap.size + 1) (by simp; omega) (fun e => by have := hq _ e.symm; omega)).trans ((heap_alloc_old _ _ l1).trans (unhide HST).m); have m1' := cell_of_row w1 _ 1 _ _ _ (unhide HM); have f1' := frozen_of_row w1 _ 1 _ _ (unhide HM); simp at m1')
      go_roundw
      case rel =>
        have bw := (unhide HST).below
        refine ⟨k + 1, _, _, _, hlt, by go_num, (Below.grown (bw.alloc bw.size _) hgrow (by simp; omega) (fun q hq' => by have := hq q hq'; omega)).setCell (by simp) _, ?_, heap_setCell_same _ _ _ _ _ _ (unhide HM), ?_⟩
        · rw [heap_setCell_other _ _ _ _ (by simp)]
          exact (hgrow.block w.heap.size (by simp; omega) (fun e => by have := hq _ e.symm; omega)).trans ((heap_alloc_old _ _ (by omega)).trans (unhide HST).z)
        · rw [startL_succ, List.map_append]
          refine ownsRow_setCell_other hown2 ?_
          simp [Value.ownBlock]
          rcases hat with h | h
          · have := hq _ h; omega
          · omega
      case measure => simp [intOf]; omega
    · obtain rfl : k = 8 := by omega
      have z0 := cell_of_row wr _ 0 _ _ _ (unhide HST).z
      have z1 := cell_of_row wr _ 1 _ _ _ (unhide HST).z
      have y0 := frozen_of_row wr _ 0 _ _ (unhide HST).z
      have y1 := frozen_of_row wr _ 1 _ _ (unhide HST).z
      simp at z0 z1
      go_wp2_with fail
      refine bodyPost_ret (results_cell_row rfl _ _ w.heap.size _ _ _ _ rfl (heap_setCell_same _ _ _ _ _ _ (heap_setCell_same _ _ _ _ _ _ (unhide HST).z)) Try.underlying31 rfl (by kernel_rfl)) rfl ?_
      have ho := (unhide HST).own
      obtain ⟨a', c', hv, _ | ⟨g, ha, hg, _⟩⟩ := ownsRow_slice ho
      · omega
      · simp at hv
        obtain ⟨rfl, rfl, rfl⟩ := hv
        subst ha
        exact ⟨_, _, _, by simp, ownsRow_base (ownsRow_setCell_other (ownsRow_setCell_other ho (by simp [Value.ownBlock]; omega)) (by simp [Value.ownBlock]; omega)) (by omega), ((unhide HST).below.setCell (by simp) _).setCell (by simp) _⟩

end Go.Proofs.Ytapihjjklinbdaa
