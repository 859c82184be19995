/- The specification's small functions on holds. -/
import Derived.Test.YtoojnhodjkpecaaHd
import Derived.Deep.QuietTactic
import Derived.BigQuiet
namespace Go.Proofs.Ytoojnhodjkpecaa
open Go.RowKit

theorem Try.infoHd : (Try.prog.info? 27).map (fun i => (i.zero, i.size, i.bytes)) = some (some (.agg #[.int .i64 0, .int .i64 0, .bool false, .bool false]), 4, 24) := by kernel_rfl

set_option maxHeartbeats 1000000 in
theorem holdOk_any (h : Hd) (w : World) : Calls Try.prog 42 #[hdV h] w fun e w' => e = .returned (.bool (holdOkB h)) ∧ Below w.heap.size w w' := by
  obtain ⟨s, t, sh, fm⟩ := h
  have hfin : holdOkB ⟨s, t, sh, fm⟩ = (inB s 1 9999 && inB t 1 9999) := rfl
  have HF := hide hfin
  clear hfin
  unfold hdV
  cases t1 : inB s 1 9999 <;> cases t2 : inB t 1 9999
  all_goals
    go_enter Try.func42, Try.ntmps42
    go_wp2_with (go_at_call 48; refine (l6In_any _ _ _ _).mono ?_; rintro e w' ⟨rfl, rfl⟩)
    go_ret
    refine ⟨ret_bool ?_, (Below.refl _ _).alloc (Nat.le_refl _) _⟩
    rw [unhide HF, t1, t2]; try rfl

set_option maxHeartbeats 1000000 in
theorem meet_any (a b : Hd) (w : World) : Calls Try.prog 45 #[hdV a, hdV b] w fun e w' => e = .returned (.bool (meetB a b)) ∧ Below w.heap.size w w' := by
  obtain ⟨s, t, sh, fm⟩ := a
  obtain ⟨s', t', sh', fm'⟩ := b
  have hfin : meetB ⟨s, t, sh, fm⟩ ⟨s', t', sh', fm'⟩ = ((s != s') && !(sh && sh')) := rfl
  have HF := hide hfin
  clear hfin
  unfold hdV
  cases t1 : (s != s') <;> cases sh <;> cases sh'
  all_goals
    go_enter Try.func45, Try.ntmps45
    go_wp2_with fail
    go_ret
    refine ⟨ret_bool ?_, ((Below.refl _ _).alloc (Nat.le_refl _) _).alloc (by simp) _⟩
    rw [unhide HF, t1]; try rfl

theorem atL_found {hs : List Hd} {s : Int} {k : Nat} (hk : k < hs.length) (h : (hs.getD k Hd.z).stamp = s) (hn : ∀ j, j < k → (hs.getD j Hd.z).stamp ≠ s) : atL hs s = k := by
  have : hs.findIdx? (fun h => h.stamp == s) = some k := by
    rw [List.findIdx?_eq_some_iff_getElem]
    refine ⟨hk, by simpa [List.getD, hk] using h, fun j hj => ?_⟩
    have := hn j hj
    simpa [List.getD, show j < hs.length by omega] using this
  simp [atL, this]

theorem atL_none {hs : List Hd} {s : Int} (hn : ∀ j, j < hs.length → (hs.getD j Hd.z).stamp ≠ s) : atL hs s = -1 := by
  have : hs.findIdx? (fun h => h.stamp == s) = none := by
    rw [List.findIdx?_eq_none_iff]
    intro x hx
    obtain ⟨i, hi, rfl⟩ := List.getElem_of_mem hx
    have := hn i hi
    simpa [List.getD, hi] using this
  simp [atL, this]

set_option maxHeartbeats 1000000 in
theorem at_any (v : Value) (hs : List Hd) (s : Int) (w : World) (hv : RowAt hdE w v hs) :
    Calls Try.prog 43 #[v, .int .i64 s] w fun e w' => e = .returned (.int .i64 (atL hs s)) ∧ w' = w := by
  obtain ⟨a, cap, rfl, hl⟩ := hv.shape
  have HV := hide hv
  clear hv
  generalize hN : hs.length = N at *
  have HN := hide hN
  clear hN
  unfold maxLen at hl
  go_enter Try.func43, Try.ntmps43
  go_wp2_with fail
  go_loop [5] (fun i => ∃ k : Nat, k ≤ N ∧ i = .int .i64 k ∧ ∀ j, j < k → (hs.getD j Hd.z).stamp ≠ s) (fun i => N - (intOf i).toNat)
  case atStart => exact ⟨0, Nat.zero_le _, rfl, fun j hj => by omega⟩
  case round =>
    obtain ⟨k, hk, rfl, hno⟩ := hrel
    have HNO := hide hno
    clear hno
    by_cases hlt : k < N
    · obtain ⟨b, off, rfl⟩ := (unhide HV).some_of (by rw [unhide HN]; omega)
      obtain ⟨c0, c1, c2, c3⟩ := hd_cells (unhide HV) (i := k) (by rw [unhide HN]; exact hlt)
      generalize hx : hs.getD k Hd.z = x at *
      have HX := hide hx
      clear hx
      by_cases hs' : x.stamp = s
      · have e1 : (x.stamp == s) = true := by simpa using hs'
        have HS := hide hs'
        clear hs'
        go_wp2_with fail
        go_ret
        exact ⟨ret_int (atL_found (by rw [unhide HN]; exact hlt) (by rw [unhide HX]; exact unhide HS) (unhide HNO)).symm, rfl⟩
      · have e1 : (x.stamp == s) = false := by simpa using hs'
        have HS := hide hs'
        clear hs'
        go_wp2_with fail
        go_round
        case rel =>
          refine ⟨k + 1, hlt, by go_num, fun j hj => ?_⟩
          by_cases e : j = k
          · subst e; rw [unhide HX]; exact unhide HS
          · exact unhide HNO j (by omega)
        case measure => simp [intOf]; omega
    · obtain rfl : k = N := by omega
      go_wp2_with fail
      go_ret
      exact ⟨ret_int (atL_none (fun j hj => unhide HNO j (by rw [unhide HN] at hj; exact hj))).symm, rfl⟩

theorem without_take {hs : List Hd} {s t : Int} {k : Nat} (h : k < hs.length) : withoutL (hs.take (k + 1)) s t = withoutL (hs.take k) s t ++ (if keepB s t (hs.getD k Hd.z) = true then [hs.getD k Hd.z] else []) := by
  unfold withoutL
  rw [List.take_succ_eq_append_getElem h, List.filter_append]
  have e : hs.getD k Hd.z = hs[k] := by simp [List.getD, h]
  rw [e]
  cases hp : keepB s t hs[k] <;> simp [hp]

set_option maxRecDepth 100000 in
set_option maxHeartbeats 1000000 in
theorem without_any (v : Value) (hs : List Hd) (s t : Int) (w : World) (hv : RowAt hdE w v hs) (hm : hs.length ≤ 1000) :
    Calls Try.prog 44 #[v, .int .i64 s, .int .i64 t] w fun e w' => ∃ r, e = .returned r ∧ w'.ownsRow w.heap.size 27 4 r (withoutL hs s t).length ((withoutL hs s t).flatMap hdE) ∧ Below w.heap.size w w' := by
  obtain ⟨a, cap, rfl, hl⟩ := hv.shape
  have HV := hide hv
  clear hv
  generalize hN : hs.length = N at *
  have HN := hide hN
  clear hN
  unfold maxLen at hl
  obtain ⟨i0, hi, hz0, hz1, hz2⟩ := info_parts Try.infoHd
  go_enter Try.func44, Try.ntmps44
  go_wp2_with fail
  go_loopw [7, 8] (fun r i wr => ∃ k : Nat, k ≤ N ∧ i = .int .i64 k ∧ wr.ownsRow w.heap.size 27 4 r (withoutL (hs.take k) s t).length ((withoutL (hs.take k) s t).flatMap hdE) ∧ Below w.heap.size w wr) (fun _ i _ => N - (intOf i).toNat)
  case atStart => exact ⟨0, Nat.zero_le _, rfl, World.ownsRow_made w #[] 0 (Nat.le_refl _) (by simp [maxLen]) (by simp), (Below.refl _ _).alloc (Nat.le_refl _) _⟩
  case round =>
    obtain ⟨k, hk, rfl, hown, hb⟩ := hrel
    have hfl : (withoutL (hs.take k) s t).length ≤ k := by have := List.length_filter_le (keepB s t) (hs.take k); have := List.length_take_le k hs; simp only [withoutL]; omega
    by_cases hlt : k < N
    · obtain ⟨b, off, rfl⟩ := (unhide HV).some_of (by rw [unhide HN]; omega)
      obtain ⟨c0, c1, c2, c3⟩ := hd_cells ((unhide HV).kept hb) (i := k) (by rw [unhide HN]; exact hlt)
      have hst := without_take (s := s) (t := t) (hs := hs) (k := k) (by rw [unhide HN]; exact hlt)
      generalize hs.getD k Hd.z = x at *
      have HST := hide hst
      have hzr := hb.size
      have HOW := hide hown
      have HBR := hide hb
      clear hst hown hb
      generalize withoutL (hs.take k) s t = F at *
      by_cases h1 : x.stamp = s
      · have e1 : (x.stamp != s) = false := by simpa using h1
        by_cases h2 : t < x.try_
        · have HK : Hid (keepB s t x = true) := by show keepB s t x = true; simp [keepB, h2]
          clear h1
          go_wp2_with (at_builtin; refine wpList_append_lies _ rfl _ _ 23 rfl w.heap.size 27 i0 (.agg #[.int .i64 0, .int .i64 0, .bool false, .bool false]) 4 24 Try.underlying23 hi hz0 hz1 hz2 rfl (by decide) _ F.length _ rfl ((unhide HOW).alloc _) ⟨wr.heap.size, 0, none⟩ 1 1 [.int .i64 x.stamp, .int .i64 x.try_, .bool x.share, .bool x.firm] rfl rfl (World.news_of_block (heap_alloc_new _ _)) (by simp [Value.oneCell']) (by decide) (by unfold maxLen; omega) (by omega) (by simp; omega) (wr.heap.size + 1) (by simp) ?_; intro ga cp w9 hown2 hgrow hat hlt2)
          have hbw : Below w.heap.size w w9 := Below.grown ((unhide HBR).alloc hzr _) hgrow (by simp; omega) (fun q hq => ((unhide HOW).lt q hq).1)
          go_roundw
          case rel =>
            refine ⟨k + 1, hlt, by go_num, ?_, hbw⟩
            rw [unhide HST, if_pos (unhide HK), List.flatMap_append, List.length_append]; exact hown2
          case measure => simp [intOf]; omega
        · have HK : Hid (¬ keepB s t x = true) := by show ¬ keepB s t x = true; simp [keepB, h1]; omega
          clear h1
          go_wp2_with fail
          go_roundw
          case rel =>
            refine ⟨k + 1, hlt, by go_num, ?_, unhide HBR⟩
            rw [unhide HST, if_neg (unhide HK), List.append_nil]; exact unhide HOW
          case measure => simp [intOf]; omega
      · have e1 : (x.stamp != s) = true := by simpa using h1
        have HK : Hid (keepB s t x = true) := by show keepB s t x = true; simp [keepB, h1]
        clear h1
        go_wp2_with (at_builtin; refine wpList_append_lies _ rfl _ _ 23 rfl w.heap.size 27 i0 (.agg #[.int .i64 0, .int .i64 0, .bool false, .bool false]) 4 24 Try.underlying23 hi hz0 hz1 hz2 rfl (by decide) _ F.length _ rfl ((unhide HOW).alloc _) ⟨wr.heap.size, 0, none⟩ 1 1 [.int .i64 x.stamp, .int .i64 x.try_, .bool x.share, .bool x.firm] rfl rfl (World.news_of_block (heap_alloc_new _ _)) (by simp [Value.oneCell']) (by decide) (by unfold maxLen; omega) (by omega) (by simp; omega) (wr.heap.size + 1) (by simp) ?_; intro ga cp w9 hown2 hgrow hat hlt2)
        have hbw : Below w.heap.size w w9 := Below.grown ((unhide HBR).alloc hzr _) hgrow (by simp; omega) (fun q hq => ((unhide HOW).lt q hq).1)
        go_roundw
        case rel =>
          refine ⟨k + 1, hlt, by go_num, ?_, hbw⟩
          rw [unhide HST, if_pos (unhide HK), List.flatMap_append, List.length_append]; exact hown2
        case measure => simp [intOf]; omega
    · obtain rfl : k = N := by omega
      have hfull : withoutL (hs.take k) s t = withoutL hs s t := by rw [List.take_of_length_le (by rw [unhide HN]; omega)]
      rw [hfull] at hown
      go_wp2_with fail
      go_ret
      exact ⟨_, rfl, hown, hb⟩

end Go.Proofs.Ytoojnhodjkpecaa
