/- Maps: the program's answers, its look at a map. -/
import Derived.Test.YtpcbpliigplgoaaMapI
namespace Go.Proofs.Ytpcbpliigplgoaa
open Go.RowKit

def zeros8 : Array Value := #[.int .i64 0, .int .i64 0, .int .i64 0, .int .i64 0, .int .i64 0, .int .i64 0, .int .i64 0, .int .i64 0]
/-- Each is one cell. -/
structure OneC (cs : Array Value) : Prop where
  all : cs.all (·.oneCell') = true

theorem zeros8_one : OneC zeros8 := ⟨by simp [zeros8, Value.oneCell']⟩
theorem arr_one (xs : List Int) : OneC (arr xs) := ⟨by simp [arr, Value.oneCell']⟩

set_option maxRecDepth 100000 in
set_option maxHeartbeats 2000000 in
theorem housesOf_any (v : Int) (u : Value) (xs : List Int) (w : World) (hu : InsAt w u xs) :
    Calls Try.prog 65 #[.agg #[.int .i64 v, u]] w fun e w' => ∃ cs, e = .returned (.tuple #[.agg cs, .bool (mapOk v xs)]) ∧ cs.size = 8 ∧ OneC cs ∧ (mapOk v xs = true → cs = arr xs) ∧ Below w.heap.size w w' := by
  obtain ⟨a, cap, rfl, h1, h2, h3⟩ := hu
  generalize hN : xs.length = N at *
  have HN := hide hN
  clear hN
  unfold maxLen at h2
  have bA : Below w.heap.size w (((w.alloc (.cells #[.int .i64 v, .slice a N cap] 44)).alloc (.cells zeros8 87)).alloc (.cells zeros8 87)) := (((Below.refl _ _).alloc (Nat.le_refl _) _).alloc (by simp) _).alloc (by simp; omega) _
  have HBA := hide bA
  clear bA
  by_cases hv1 : v < 1
  · have HM := hide (mapOk_no1 (v := v) (xs := xs) (by simp [inB]; omega))
    go_enter Try.func65, Try.ntmps65
    go_wp2
    refine bodyPost_ret (results_row_tmp rfl _ _ (w.heap.size + 1) _ _ _ _ rfl ((heap_alloc_old _ _ (by simp)).trans (heap_alloc2_new _ _ _)) Try.underlying87 rfl (by kernel_rfl)) rfl ?_
    have hm := unhide HM
    exact ⟨zeros8, by rw [hm]; rfl, rfl, zeros8_one, by rw [hm]; simp, unhide HBA⟩
  by_cases hv2 : 99 < v
  · have HM := hide (mapOk_no1 (v := v) (xs := xs) (by simp [inB]; omega))
    go_enter Try.func65, Try.ntmps65
    go_wp2
    refine bodyPost_ret (results_row_tmp rfl _ _ (w.heap.size + 1) _ _ _ _ rfl ((heap_alloc_old _ _ (by simp)).trans (heap_alloc2_new _ _ _)) Try.underlying87 rfl (by kernel_rfl)) rfl ?_
    have hm := unhide HM
    exact ⟨zeros8, by rw [hm]; rfl, rfl, zeros8_one, by rw [hm]; simp, unhide HBA⟩
  by_cases h8 : N = 8
  case neg =>
    have HM := hide (mapOk_no2 (v := v) (xs := xs) (by rw [unhide HN]; exact h8))
    have hne : ((N : Int) != 8) = true := by simp; omega
    go_enter Try.func65, Try.ntmps65
    go_wp2
    refine bodyPost_ret (results_row_tmp rfl _ _ (w.heap.size + 1) _ _ _ _ rfl ((heap_alloc_old _ _ (by simp)).trans (heap_alloc2_new _ _ _)) Try.underlying87 rfl (by kernel_rfl)) rfl ?_
    have hm := unhide HM
    exact ⟨zeros8, by rw [hm]; rfl, rfl, zeros8_one, by rw [hm]; simp, unhide HBA⟩
  subst h8
  obtain ⟨b, off, rfl, hc⟩ : ∃ b off, a = some ⟨b, off, none⟩ ∧ InCells w b off 8 xs := by
    rcases h3 with h3 | h3
    · have := unhide HN; subst h3; simp at this
    · exact h3
  clear h3
  have HC := hide hc
  clear hc
  go_enter Try.func65, Try.ntmps65
  go_wp2
  go_loopw [25] (fun i wr => ∃ (k : Nat) (cs : Array Value), k ≤ 8 ∧ i = .int .i64 k ∧ Below w.heap.size w wr ∧ wr.heap[w.heap.size + 1]? = some (.cells zeros8 87 (0, 0)) ∧ wr.heap[w.heap.size + 1 + 1]? = some (.cells cs 87 (0, 0)) ∧ cs.size = 8 ∧ (∀ q, q < k → cs[q]? = some (.int .i64 (xs.getD q 0))) ∧ (xs.take k).all hsB = true) (fun i _ => 8 - (intOf i).toNat)
  case atStart =>
    exact ⟨0, zeros8, Nat.zero_le _, rfl, unhide HBA, (heap_alloc_old _ _ (by simp)).trans (heap_alloc2_new _ _ _), heap_alloc3_new _ _ _ _, rfl, fun q hq => absurd hq (Nat.not_lt_zero _), rfl⟩
  case round =>
    obtain ⟨k, cs, hk, rfl, hb, hz, hy, hsz, hcs, hall⟩ := hrel
    have HB := hide hb
    have HZ := hide hz
    have HY := hide hy
    have HSZ := hide hsz
    have HCS := hide hcs
    have HA := hide hall
    clear hb hz hy hsz hcs hall
    by_cases hlt : k < 8
    · have c0 := (unhide HC).kept (unhide HB) k hlt
      generalize hx : xs.getD k 0 = x at c0
      have HX := hide hx
      clear hx
      cases hxh : hsB x
      · have HXH := hide hxh
        have HM := hide (mapOk_no3 (v := v) (all_false_at (d := 0) (xs := xs) (k := k) (p := hsB) (by rw [unhide HN]; exact hlt) (by rw [unhide HX]; exact unhide HXH)))
        go_wp2_with (first | (go_at_call 55; refine (isHouse_any _ _).mono ?_; rintro e w' ⟨rfl, rfl⟩) | (refine wpList_store_row rfl 87 _ _ rfl (w.heap.size + 1) zeros8 rfl rfl 87 _ (unhide HZ) (by kernel_rfl) rfl zeros8_one.all ?_))
        refine bodyPost_ret (results_row_tmp rfl _ _ (w.heap.size + 1) _ _ _ _ rfl (setRow_heap _ _ _ _ _ _ (unhide HZ)) Try.underlying87 rfl (by kernel_rfl)) rfl ?_
        have hm := unhide HM
        exact ⟨zeros8, by rw [hm]; rfl, rfl, zeros8_one, by rw [hm]; simp, below_setRow (unhide HB) (by omega) _⟩
      · have HXH := hide hxh
        have hki : (k : Int) < 8 := by omega
        have y0 : wr.cell? ⟨w.heap.size + 1 + 1, k, none⟩ = some (cs[k]'(by rw [unhide HSZ]; exact hlt)) := by
          rw [cell_of_row wr _ k _ _ _ (unhide HY)]; simp [unhide HSZ, hlt]
        have y1 := frozen_of_row wr _ k _ _ (unhide HY)
        generalize cs[k]'(by rw [unhide HSZ]; exact hlt) = u at y0
        go_wp2_with (go_at_call 55; refine (isHouse_any _ _).mono ?_; rintro e w' ⟨rfl, rfl⟩)
        go_roundw
        case rel =>
          refine ⟨k + 1, cs.setIfInBounds k (.int .i64 x), hlt, by go_num, (unhide HB).setCell (by simp; omega) _, (heap_setCell_other _ _ _ _ (by simp)).trans (unhide HZ), heap_setCell_same _ _ _ _ _ _ (unhide HY), by simpa using unhide HSZ, fun q hq => ?_, all_take_step (d := 0) (unhide HA) (by rw [unhide HN]; exact hlt) (by rw [unhide HX]; exact unhide HXH)⟩
          by_cases e : k = q
          · subst e; rw [unhide HX]; simp [unhide HSZ, hlt]
          · rw [Array.getElem?_setIfInBounds_ne e]; exact unhide HCS q (by omega)
        case measure => simp [intOf]; omega
    · obtain rfl : k = 8 := by omega
      have hcs : cs = arr xs := by
        apply Array.ext_getElem?
        intro q
        by_cases hq : q < 8
        · rw [unhide HCS q hq, arr_at xs (by rw [unhide HN]; exact hq)]
        · rw [Array.getElem?_eq_none (by rw [unhide HSZ]; omega), Array.getElem?_eq_none (by rw [arr_size, unhide HN]; omega)]
      have HCE := hide hcs
      have H1C : Hid (OneC cs) := by
        show OneC cs
        rw [hcs]; exact arr_one xs
      clear hcs
      go_wp2_with (first | (refine wpList_load_row rfl 87 _ rfl (w.heap.size + 1 + 1) rfl 87 cs _ _ (unhide HY) Try.underlying87 rfl (by rw [unhide HSZ]; kernel_rfl) ?_) | (refine wpList_store_row rfl 87 _ _ rfl (w.heap.size + 1) cs rfl rfl 87 _ (unhide HZ) (by rw [unhide HSZ]; kernel_rfl) (by rw [unhide HSZ]; rfl) (unhide H1C).all ?_))
      refine bodyPost_ret (results_row_tmp rfl _ _ (w.heap.size + 1) _ _ _ _ rfl (setRow_heap _ _ _ _ _ _ (unhide HZ)) Try.underlying87 rfl (by rw [unhide HSZ]; kernel_rfl)) rfl ?_
      have h1 := unhide HA
      rw [List.take_of_length_le (by rw [unhide HN]; omega)] at h1
      have hm := mapOk_mk (v := v) (by simp [inB]; omega) (unhide HN) h1
      exact ⟨cs, by rw [hm]; rfl, unhide HSZ, unhide H1C, fun _ => unhide HCE, below_setRow (unhide HB) (by omega) _⟩

end Go.Proofs.Ytpcbpliigplgoaa
