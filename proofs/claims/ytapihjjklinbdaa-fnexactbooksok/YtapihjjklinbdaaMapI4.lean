/- Maps: the program's moves, and its map at first. -/
import Derived.Test.YtapihjjklinbdaaMapI3
import Derived.Test.YtapihjjklinbdaaMapS3
namespace Go.Proofs.Ytapihjjklinbdaa
open Go.RowKit

set_option maxRecDepth 100000 in
set_option maxHeartbeats 2000000 in
theorem implMove_any (v : Int) (u : Value) (xs : List Int) (s t : Int) (w : World) (hu : InsAt w u xs) :
    Calls Try.prog 36 #[.agg #[.int .i64 v, u], .int .i64 s, .int .i64 t] w fun e w' => ∃ r, e = .returned (.tuple #[.agg #[.int .i64 (moveV v xs s t), r], .int .i64 (moveC v xs s t)]) ∧ InsAt w' r (moveL v xs s t) ∧ OwnIn w' r (moveL v xs s t).length w.heap.size ∧ Below w.heap.size w w' := by
  have HU := hide hu
  obtain ⟨a, cap, rfl, h1, h2, h3⟩ := hu
  have bA : Below w.heap.size w ((w.alloc (.cells #[.int .i64 v, .slice a xs.length cap] 31)).alloc (.cells #[.int .i64 0, .slice none 0 0] 31)) := ((Below.refl _ _).alloc (Nat.le_refl _) _).alloc (by simp) _
  clear h1 h2 h3
  cases hm : mapOk v xs
  · have HE := hide (moveC_bad s t hm)
    go_enter Try.func36, Try.ntmps36
    go_wp2_with fail
    refine (housesOf_any v _ xs _ ((unhide HU).kept bA)).mono ?_; rintro e w1 ⟨cs, rfl, hsz, h1c, -, hb1⟩
    have HSZ := hide hsz
    have HB1 := hide (bA.trans (hb1.mono bA.size))
    have HR : Hid (w1.heap[w.heap.size + 1]? = some (.cells #[.int .i64 0, .slice none 0 0] 31 (0, 0))) := (hb1.block (w.heap.size + 1) (by simp)).trans (heap_alloc2_new _ _ _)
    have z1 := hb1.size
    simp at z1
    have k0 := cell_of_row w1 _ 0 _ _ _ (unhide HR)
    have k1 := cell_of_row w1 _ 1 _ _ _ (unhide HR)
    have f0 := frozen_of_row w1 _ 0 _ _ (unhide HR)
    have f1 := frozen_of_row w1 _ 1 _ _ (unhide HR)
    simp at k0 k1
    have b1 : (w.heap.size + 1) < w1.heap.size := by omega
    clear hsz hb1 bA
    go_wp2_with (refine wpList_store_row rfl 82 _ _ rfl w1.heap.size cs rfl rfl 82 _ (heap_alloc_new _ _) (by rw [unhide HSZ]; kernel_rfl) (by rw [unhide HSZ]; rfl) h1c.all ?_; rw [setRow_alloc_new])
    refine bodyPost_ret (results_row_tmp rfl _ _ (w.heap.size + 1) _ _ _ _ rfl ((heap_alloc_old _ _ (by simp; omega)).trans (heap_setCell_same _ _ _ _ _ _ (heap_setCell_same _ _ _ _ _ _ (unhide HR)))) Try.underlying31 rfl (by kernel_rfl)) rfl ?_
    obtain ⟨e1, e2, e3⟩ := unhide HE
    rw [e1, e2, e3]
    exact ⟨.slice none 0 0, by simp, ⟨none, 0, rfl, by simp, by simp [maxLen], .inl rfl⟩, .inl ⟨rfl, rfl⟩, (((unhide HB1).setCell (by simp) _).setCell (by simp) _).alloc (by simp; omega) _⟩
  have hl := mapOk_len hm
  have hvb := mapOk_ver hm
  have HL := hide hl
  have HM := hide hm
  have HVB := hide hvb
  clear hl hvb
  go_enter Try.func36, Try.ntmps36
  go_wp2_with fail
  refine (housesOf_any v _ xs _ ((unhide HU).kept bA)).mono ?_; rintro e w1 ⟨cs, rfl, hsz, h1c, hcs, hb1⟩
  have hcs' := hcs hm
  subst hcs'
  clear hcs
  have HSZ := hide hsz
  have HB1 := hide (bA.trans (hb1.mono bA.size))
  have z1 := hb1.size
  simp at z1
  have HR : Hid (w1.heap[w.heap.size + 1]? = some (.cells #[.int .i64 0, .slice none 0 0] 31 (0, 0))) := (hb1.block (w.heap.size + 1) (by simp)).trans (heap_alloc2_new _ _ _)
  have HMM : Hid (w1.heap[w.heap.size]? = some (.cells #[.int .i64 v, .slice a xs.length cap] 31 (0, 0))) := (hb1.block w.heap.size (by simp; omega)).trans (heap_alloc2_old _ _ _)
  have m0 := cell_of_row w1 _ 0 _ _ _ (unhide HMM)
  simp at m0
  have b0 : w.heap.size < w1.heap.size := by omega
  have b1 : (w.heap.size + 1) < w1.heap.size := by omega
  clear hsz hb1 bA
  go_wp2_with (first | (refine wpList_store_row rfl 82 _ _ rfl w1.heap.size (arr xs) rfl rfl 82 _ (heap_alloc_new _ _) (by rw [unhide HSZ]; kernel_rfl) (by rw [unhide HSZ]; rfl) h1c.all ?_; rw [setRow_alloc_new]) | (refine wpList_load_row rfl 82 _ rfl w1.heap.size rfl 82 (arr xs) _ _ (heap_alloc_new _ _) Try.underlying82 rfl (by rw [unhide HSZ]; kernel_rfl) ?_))
  refine (codeOfMove_any v xs s t _ (unhide HL)).mono ?_; rintro e w2 ⟨rfl, hb2⟩
  have z2 := hb2.size
  simp at z2
  have HB2 : Hid (Below w.heap.size w w2) := ((unhide HB1).alloc (unhide HB1).size _).trans (hb2.mono (by simp; omega))
  have HR2 : Hid (w2.heap[w.heap.size + 1]? = some (.cells #[.int .i64 0, .slice none 0 0] 31 (0, 0))) := (hb2.block (w.heap.size + 1) (by simp; omega)).trans ((heap_alloc_old _ _ b1).trans (unhide HR))
  have HM2 : Hid (w2.heap[w.heap.size]? = some (.cells #[.int .i64 v, .slice a xs.length cap] 31 (0, 0))) := (hb2.block w.heap.size (by simp; omega)).trans ((heap_alloc_old _ _ b0).trans (unhide HMM))
  have HA2 : Hid (w2.heap[w1.heap.size]? = some (.cells (arr xs) 82 (0, 0))) := (hb2.block w1.heap.size (by simp)).trans (heap_alloc_new _ _)
  have n0 := cell_of_row w2 _ 0 _ _ _ (unhide HM2)
  simp at n0
  have b0' : w.heap.size < w2.heap.size := by omega
  have b1' : (w.heap.size + 1) < w2.heap.size := by omega
  have b2' : w1.heap.size < w2.heap.size := by omega
  clear m0 hb2 HMM HR HB1
  by_cases hc : moveCode v xs s t = 0
  case neg =>
    have HE := hide (moveC_ok hm hc)
    have hcb : (moveCode v xs s t != 0) = true := by simpa using hc
    clear hc
    generalize moveCode v xs s t = c at *
    go_wp2_with (first | (refine wpList_load_row rfl 82 _ rfl w1.heap.size rfl 82 (arr xs) _ _ (unhide HA2) Try.underlying82 rfl (by rw [unhide HSZ]; kernel_rfl) ?_))
    refine (mapOf_any v xs _ (unhide HL)).mono ?_; rintro e w3 ⟨rfl, hi3, hr3, hz3, hb3⟩
    have HR3 : Hid (w3.heap[w.heap.size + 1]? = some (.cells #[.int .i64 0, .slice none 0 0] 31 (0, 0))) := (hb3.block (w.heap.size + 1) b1').trans (unhide HR2)
    have k0 := cell_of_row w3 _ 0 _ _ _ (unhide HR3)
    have k1 := cell_of_row w3 _ 1 _ _ _ (unhide HR3)
    have f0 := frozen_of_row w3 _ 0 _ _ (unhide HR3)
    have f1 := frozen_of_row w3 _ 1 _ _ (unhide HR3)
    simp at k0 k1
    have HB3 := hide ((unhide HB2).trans (hb3.mono (unhide HB2).size))
    have HI3 := hide hi3
    have HRM := hide hr3
    clear hb3 hi3 hr3 n0
    go_wp2_with fail
    refine bodyPost_ret (results_row_tmp rfl _ _ (w.heap.size + 1) _ _ _ _ rfl (heap_setCell_same _ _ _ _ _ _ (heap_setCell_same _ _ _ _ _ _ (unhide HR3))) Try.underlying31 rfl (by kernel_rfl)) rfl ?_
    obtain ⟨e1, e2, e3⟩ := unhide HE
    rw [e1, e2, e3, unhide HL]
    refine ⟨.slice (some ⟨w2.heap.size, 0, none⟩) 8 8, by simp, ?_, .inr ⟨w2.heap.size, 8, rfl, by omega, by simp; omega, ((unhide HRM).set _ _).set _ _⟩, ((unhide HB3).setCell (by simp) _).setCell (by simp) _⟩
    exact ((unhide HI3).set (g := w.heap.size + 1) (by simp [Value.ownBlock]; omega) _ _).set (by simp [Value.ownBlock]; omega) _ _
  have HE := hide (moveC_done hm hc)
  obtain ⟨vb1, vb2⟩ := unhide HVB
  have hs : slB s = true := by
    cases hs : slB s with
    | true => rfl
    | false => rw [code_9 (by simp [hs])] at hc; simp at hc
  obtain ⟨s1, s2⟩ := slB_bounds hs
  obtain ⟨S, rfl⟩ := Int.eq_ofNat_of_zero_le s1
  have hS8 : S < 8 := by omega
  have hS8' : (S : Int) < 8 := by omega
  have y0 : w2.cell? ⟨w1.heap.size, S, none⟩ = some (.int .i64 (xs.getD S 0)) := (cell_of_row w2 _ S _ _ _ (unhide HA2)).trans (arr_at xs (by rw [unhide HL]; exact hS8))
  have y1 := frozen_of_row w2 _ S _ _ (unhide HA2)
  generalize xs.getD S 0 = x at y0
  have HA3 : Hid ((w2.setCell ⟨w1.heap.size, S, none⟩ (.int .i64 t)).heap[w1.heap.size]? = some (.cells (arr (xs.set S t)) 82 (0, 0))) := by
    have := heap_setCell_same w2 w1.heap.size S _ _ (.int .i64 t) (unhide HA2)
    rw [arr_set] at this; exact this
  have HSZ3 : Hid ((arr (xs.set S t)).size = 8) := by show (arr (xs.set S t)).size = 8; rw [arr_size, List.length_set, unhide HL]
  have hcb : (moveCode v xs S t != 0) = false := by simpa using hc
  clear hc hs s1
  generalize moveCode v xs S t = c at *
  go_wp2_with (first | (refine wpList_load_row rfl 82 _ rfl w1.heap.size rfl 82 (arr (xs.set S t)) _ _ (unhide HA3) Try.underlying82 rfl (by rw [unhide HSZ3]; kernel_rfl) ?_))
  refine (mapOf_any (v + 1) (xs.set S t) _ (by rw [List.length_set]; exact unhide HL)).mono ?_; rintro e w3 ⟨rfl, hi3, hr3, hz3, hb3⟩
  simp at hi3 hr3 hz3 hb3
  have HR3 : Hid (w3.heap[w.heap.size + 1]? = some (.cells #[.int .i64 0, .slice none 0 0] 31 (0, 0))) := (hb3.block (w.heap.size + 1) b1').trans ((heap_setCell_other _ _ _ _ (by simp; omega)).trans (unhide HR2))
  have k0 := cell_of_row w3 _ 0 _ _ _ (unhide HR3)
  have k1 := cell_of_row w3 _ 1 _ _ _ (unhide HR3)
  have f0 := frozen_of_row w3 _ 0 _ _ (unhide HR3)
  have f1 := frozen_of_row w3 _ 1 _ _ (unhide HR3)
  simp at k0 k1
  have HB3 := hide (((unhide HB2).setCell (by show w.heap.size ≤ w1.heap.size; omega) _).trans (hb3.mono (by omega)))
  have HI3 := hide hi3
  have HRM := hide hr3
  clear hb3 hi3 hr3 n0
  go_wp2_with fail
  refine bodyPost_ret (results_row_tmp rfl _ _ (w.heap.size + 1) _ _ _ _ rfl (heap_setCell_same _ _ _ _ _ _ (heap_setCell_same _ _ _ _ _ _ (unhide HR3))) Try.underlying31 rfl (by kernel_rfl)) rfl ?_
  obtain ⟨e1, e2, e3⟩ := unhide HE
  rw [e1, e2, e3, List.length_set, unhide HL, Int.toNat_natCast]
  refine ⟨.slice (some ⟨w2.heap.size, 0, none⟩) 8 8, by simp, ?_, .inr ⟨w2.heap.size, 8, rfl, by omega, by simp; omega, ((unhide HRM).set _ _).set _ _⟩, ((unhide HB3).setCell (by simp) _).setCell (by simp) _⟩
  exact ((unhide HI3).set (g := w.heap.size + 1) (by simp [Value.ownBlock]; omega) _ _).set (by simp [Value.ownBlock]; omega) _ _

set_option maxRecDepth 100000 in
set_option maxHeartbeats 2000000 in
theorem implStart_any (w : World) :
    Calls Try.prog 23 #[] w fun e w' => ∃ r, e = .returned (.agg #[.int .i64 1, r]) ∧ InsAt w' r (startL 8) ∧ OwnIn w' r 8 w.heap.size ∧ Below w.heap.size w w' := by
  go_enter Try.func23, Try.ntmps23
  go_wp2
  go_loopw [3] (fun i wr => ∃ (k : Nat) (cs : Array Value), k ≤ 8 ∧ i = .int .i64 k ∧ Below w.heap.size w wr ∧ wr.heap[w.heap.size]? = some (.cells #[.int .i64 0, .slice none 0 0] 31 (0, 0)) ∧ wr.heap[w.heap.size + 1]? = some (.cells cs 82 (0, 0)) ∧ cs.size = 8 ∧ (∀ q : Nat, q < k → cs[q]? = some (.int .i64 ((q : Int) % 3)))) (fun i _ => 8 - (intOf i).toNat)
  case atStart =>
    exact ⟨0, zeros8, Nat.zero_le _, rfl, ((Below.refl _ _).alloc (Nat.le_refl _) _).alloc (by simp) _, heap_alloc2_old _ _ _, heap_alloc2_new _ _ _, rfl, fun q hq => absurd hq (Nat.not_lt_zero _)⟩
  case round =>
    obtain ⟨k, cs, hk, rfl, hb, hz, hy, hsz, hcs⟩ := hrel
    have HB := hide hb
    have HZ := hide hz
    have HY := hide hy
    have HSZ := hide hsz
    have HCS := hide hcs
    clear hb hz hy hsz hcs
    by_cases hlt : k < 8
    · have hki : (k : Int) < 8 := by omega
      have y0 : wr.cell? ⟨w.heap.size + 1, k, none⟩ = some (cs[k]'(by rw [unhide HSZ]; exact hlt)) := by
        rw [cell_of_row wr _ k _ _ _ (unhide HY)]; simp [unhide HSZ, hlt]
      have y1 := frozen_of_row wr _ k _ _ (unhide HY)
      generalize cs[k]'(by rw [unhide HSZ]; exact hlt) = u at y0
      go_wp2
      go_roundw
      case rel =>
        refine ⟨k + 1, cs.setIfInBounds k (.int .i64 ((k : Int) % 3)), hlt, by go_num, (unhide HB).setCell (by simp) _, (heap_setCell_other _ _ _ _ (by simp)).trans (unhide HZ), heap_setCell_same _ _ _ _ _ _ (unhide HY), by simpa using unhide HSZ, fun q hq => ?_⟩
        by_cases e : k = q
        · subst e; simp [unhide HSZ, hlt]
        · rw [Array.getElem?_setIfInBounds_ne e]; exact unhide HCS q (by omega)
      case measure => simp [intOf]; omega
    · obtain rfl : k = 8 := by omega
      have hcs : cs = arr (startL 8) := by
        apply Array.ext_getElem?
        intro q
        by_cases hq : q < 8
        · rw [unhide HCS q hq, arr_at _ (by rw [startL_length]; exact hq)]
          simp [startL, List.getD, hq]
        · rw [Array.getElem?_eq_none (by rw [unhide HSZ]; omega), Array.getElem?_eq_none (by rw [arr_size, startL_length]; omega)]
      subst hcs
      clear HCS
      go_wp2_with (refine wpList_load_row rfl 82 _ rfl (w.heap.size + 1) rfl 82 (arr (startL 8)) _ _ (unhide HY) Try.underlying82 rfl (by rw [unhide HSZ]; kernel_rfl) ?_)
      refine (mapOf_any 1 (startL 8) _ (startL_length 8)).mono ?_; rintro e w3 ⟨rfl, hi3, hr3, hz3, hb3⟩
      have zr := (unhide HB).size
      have lz : w.heap.size < wr.heap.size := by
        rcases Nat.lt_or_ge w.heap.size wr.heap.size with h | h
        · exact h
        · have := unhide HZ; rw [Array.getElem?_eq_none h] at this; cases this
      have HR3 : Hid (w3.heap[w.heap.size]? = some (.cells #[.int .i64 0, .slice none 0 0] 31 (0, 0))) := (hb3.block w.heap.size lz).trans (unhide HZ)
      have k0 := cell_of_row w3 _ 0 _ _ _ (unhide HR3)
      have k1 := cell_of_row w3 _ 1 _ _ _ (unhide HR3)
      have f0 := frozen_of_row w3 _ 0 _ _ (unhide HR3)
      have f1 := frozen_of_row w3 _ 1 _ _ (unhide HR3)
      simp at k0 k1
      have HB3 := hide ((unhide HB).trans (hb3.mono (unhide HB).size))
      have HI3 := hide hi3
      have HRM := hide hr3
      clear hb3 hi3 hr3
      go_wp2_with fail
      refine bodyPost_ret (results_cell_row rfl _ _ w.heap.size _ _ _ _ rfl (heap_setCell_same _ _ _ _ _ _ (heap_setCell_same _ _ _ _ _ _ (unhide HR3))) Try.underlying31 rfl (by kernel_rfl)) rfl ?_
      refine ⟨.slice (some ⟨wr.heap.size, 0, none⟩) 8 8, by simp, ?_, .inr ⟨wr.heap.size, 8, rfl, by omega, by simp; omega, ((unhide HRM).set _ _).set _ _⟩, ((unhide HB3).setCell (by simp) _).setCell (by simp) _⟩
      exact ((unhide HI3).set (g := w.heap.size) (by simp [Value.ownBlock]; omega) _ _).set (by simp [Value.ownBlock]; omega) _ _

end Go.Proofs.Ytapihjjklinbdaa
