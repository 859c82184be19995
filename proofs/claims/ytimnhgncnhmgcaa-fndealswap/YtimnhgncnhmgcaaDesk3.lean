/- The desk: what was changed, told in order; the code of what was recovered. -/
import Derived.Test.YtimnhgncnhmgcaaDesk2
namespace Go.Proofs.Ytimnhgncnhmgcaa
open Go.RowKit
attribute [local go_sem ↓] Go.wp_at_zero Go.wp_at_succ

theorem Try.infoBool : (Try.prog.info? 4).map (fun i => (i.zero, i.size, i.bytes)) = some (some (.bool false), 1, 1) := by kernel_rfl

set_option maxRecDepth 100000 in
set_option maxHeartbeats 2000000 in
theorem deskChanges_any (D B0 M : Nat) (s : Sta) (w : World) (hM : Hid (M = 32)) (hd : DeskAt w D B0 s) :
    Calls Try.prog 80 #[.pointer (some ⟨D, 0, none⟩)] w fun e w' => ∃ r, e = .returned r ∧ w'.ownsRow w.heap.size 39 2 r (chTo s.f s.c M).length (prFlat (chTo s.f s.c M)) ∧ Below w.heap.size w w' := by
  obtain ⟨cs, hcl, hcs, hrg⟩ : ∃ cs : List Value, cs.length = 32 ∧ (∀ q : Nat, q < 32 → cs[q]? = some (.bool (s.c q))) ∧ w.rangeAt D 32 cs := by
    refine ⟨(List.range 32).map fun (q : Nat) => .bool (s.c q), by simp, fun q hq => by simp [hq], fun q v hv => ?_⟩
    have hq : q < 32 := by
      rcases Nat.lt_or_ge q 32 with hlt | hge
      · exact hlt
      · rw [List.getElem?_eq_none (by simpa using hge)] at hv; cases hv
    simp only [List.getElem?_map, List.getElem?_range hq, Option.map_some, Option.some.injEq] at hv
    subst hv
    exact (hd.chg q hq).1
  have hilen : (Try.prog.info? 109).map (·.size) = some cs.length := by rw [hcl]; kernel_rfl
  have hl := hd.lt
  have HD := hide hd
  clear hd
  obtain ⟨i0, hi, hz0, hz1, hz2⟩ := info_parts Try.infoPr2
  go_enter Try.func80, Try.ntmps80
  go_wp2_with (refine wpList_load_mid rfl 109 _ rfl D 32 rfl cs (.array 32 4) hrg Try.underlying109 rfl hilen ?_)
  clear hrg hilen
  go_loopw [3, 10] (fun r i wr => ∃ k : Nat, k ≤ 32 ∧ i = .int .i64 k ∧ Below w.heap.size w wr ∧ wr.ownsRow w.heap.size 39 2 r (chTo s.f s.c k).length (prFlat (chTo s.f s.c k))) (fun _ i _ => 32 - (intOf i).toNat)
  case atStart => exact ⟨0, by omega, rfl, Below.refl _ _, World.ownsRow_nil _ _ _ _⟩
  case round =>
    obtain ⟨k, hk, rfl, hbr, hown⟩ := hrel
    have hpl := chTo_length s.f s.c k
    by_cases hlt : k < 32
    · obtain ⟨j0, hj, hj0, hj1, hj2⟩ := info_parts Try.infoBool
      have hix : ∀ wx, (Instr.index 109 (.agg cs.toArray) (.int .i64 (k : Int))).run Try.prog wx = .ok (.bool (s.c k)) wx := fun wx =>
        run_index_arr 109 4 32 j0 _ cs.toArray .i64 k _ wx Try.underlying109 hj hj1 Try.underlying4 rfl hlt (by simpa using hcs k hlt)
      clear hcs hj hj0 hj1 hj2 j0
      have hlt' : (k : Int) < 32 := by omega
      have hk0 : (0 : Int) ≤ (k : Int) := by omega
      cases hc : s.c k
      · have hstep : chTo s.f s.c (k + 1) = chTo s.f s.c k := by simp [chTo, hc]
        have HS := hide hstep
        clear hstep
        rw [hc] at hix
        have HC := hide hc
        clear hc
        go_wp2
        go_roundw
        case rel => exact ⟨k + 1, hlt, by go_num, hbr, by rw [unhide HS]; exact hown⟩
        case measure => simp [intOf]; omega
      · have hstep : chTo s.f s.c (k + 1) = chTo s.f s.c k ++ [⟨k, s.f k⟩] := by simp [chTo, hc]
        have HS := hide hstep
        clear hstep
        rw [hc] at hix
        have HC := hide hc
        clear hc
        have hv0 : wr.cell? ⟨D, k, none⟩ = some (.int .i64 (s.f k)) := (hbr.cell (p := ⟨D, k, none⟩) hl).trans ((unhide HD).vals k hlt).1
        generalize hL : chTo s.f s.c k = L at *
        have HL := hide hL
        clear hL
        generalize s.f k = FK at *
        have hszr := hbr.size
        go_wp2_with (at_builtin; refine wpList_append_lies _ rfl _ _ 24 rfl w.heap.size 39 i0 (.agg #[.int .i64 0, .int .i64 0]) 2 16 Try.underlying24 hi hz0 hz1 hz2 rfl (by decide) _ L.length _ rfl (hown.alloc _) ⟨wr.heap.size, 0, none⟩ 1 1 [.int .i64 k, .int .i64 FK] rfl rfl (World.news_of_block (heap_alloc_new _ _)) (by simp [Value.oneCell']) (by decide) (by unfold maxLen; omega) (by omega) (by simp; omega) (wr.heap.size + 1) (by simp) ?_; intro g cp w1 hown2 hgrow hat hlt2)
        have hbw : Below w.heap.size w w1 := Below.grown (hbr.alloc hszr _) hgrow (by simp; omega) (fun q hq => (hown.lt q hq).1)
        go_roundw
        case rel =>
          refine ⟨k + 1, hlt, by go_num, hbw, ?_⟩
          rw [unhide HS, prFlat_append, List.length_append]
          exact hown2
        case measure => simp [intOf]; omega
    · go_wp2
      go_ret
      obtain rfl : k = 32 := by omega
      rw [unhide hM]
      exact ⟨_, rfl, hown, hbr⟩

set_option maxHeartbeats 1000000 in
theorem codeOf_refusal (k : Int) (w : World) :
    Calls Try.prog 78 #[.iface 146 (.int .i64 k)] w fun e w' => e = .returned (.int .i64 k) ∧ w' = w := by
  have hta : ∀ w : World, (Instr.typeAssert (.iface 146 (.int .i64 k)) 20 146 true).run Try.prog w = .ok (.tuple #[.int .i64 k, .bool true]) w := fun _ => by kernel_rfl
  go_enter Try.func78, Try.ntmps78
  go_wp2
  go_ret
  exact ⟨rfl, rfl⟩

end Go.Proofs.Ytimnhgncnhmgcaa
