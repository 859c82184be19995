/- A world at first, as the draws make it: some value comes back, and what was there stays. -/
import Derived.Test.YtmikdkdgpomiaaaDoorDraw2
import Derived.Laws.CopyOwn
namespace Go.Proofs.YtmikdkdgpomiaaaDoor
open Go.RowKit

def lkFlat : Nat → List Value
  | 0 => []
  | m + 1 => lkFlat m ++ [.int .i64 m, .slice none 0 0, .slice none 0 0]

theorem Tryd.infoLk : (Tryd.prog.info? 131).map (fun i => (i.zero, i.size, i.bytes)) = some (some (.agg #[.int .i64 0, .slice none 0 0, .slice none 0 0]), 3, 56) := by kernel_rfl

set_option maxRecDepth 100000 in
set_option maxHeartbeats 1000000 in
theorem locks_any (w : World) :
    Calls Tryd.prog 68 #[] w fun e w' => ∃ a n c, e = .returned (.slice a n c) ∧ Below w.heap.size w w' := by
  have hbA : Below w.heap.size w (w.alloc (.cells #[] 131)) := (Below.refl _ _).alloc (Nat.le_refl _) _
  have hoA : (w.alloc (.cells #[] 131)).ownsRow w.heap.size 131 3 (.slice (some ⟨w.heap.size, 0, none⟩) 0 0) 0 [] := World.ownsRow_made w #[] 0 (Nat.le_refl _) (by simp [maxLen]) (by simp)
  obtain ⟨i0, hi, hz0, hz1, hz2⟩ := info_parts Tryd.infoLk
  go_enter Tryd.func68, Tryd.ntmps68
  go_wp2_with fail
  go_loopw [1, 2] (fun r i wr => ∃ k : Nat, k ≤ 8 ∧ i = .int .i64 k ∧ Below w.heap.size w wr ∧ wr.ownsRow w.heap.size 131 3 r k (lkFlat k)) (fun _ i _ => 8 - (intOf i).toNat)
  case atStart => exact ⟨0, by omega, rfl, hbA, hoA⟩
  case round =>
    obtain ⟨k, hk, rfl, hbr, hown⟩ := hrel
    have hszr := hbr.size
    by_cases hlt : k < 8
    · go_wp2_with (at_builtin; refine wpList_append_lies _ rfl _ _ 110 rfl w.heap.size 131 i0 (.agg #[.int .i64 0, .slice none 0 0, .slice none 0 0]) 3 56 Tryd.underlying110 hi hz0 hz1 hz2 rfl (by decide) _ k _ rfl (hown.alloc _) ⟨wr.heap.size, 0, none⟩ 1 1 [.int .i64 k, .slice none 0 0, .slice none 0 0] rfl rfl (World.news_of_block (heap_alloc_new _ _)) (by simp [Value.oneCell']) (by decide) (by unfold maxLen; omega) (by omega) (by simp; omega) (wr.heap.size + 1) (by simp) ?_; intro g cp w1 hown2 hgrow hat hlt2)
      have hbw : Below w.heap.size w w1 := Below.grown (hbr.alloc hszr _) hgrow (by simp; omega) (fun q hq => (hown.lt q hq).1)
      go_roundw
      case rel => exact ⟨k + 1, hlt, by go_num, hbw, hown2⟩
      case measure => simp [intOf]; omega
    · go_wp2
      go_ret
      obtain ⟨_, ⟨rfl, _⟩ | ⟨g, cap, cur, rfl, _⟩⟩ := hown
      · exact ⟨_, _, _, rfl, hbr⟩
      · exact ⟨_, _, _, rfl, hbr⟩

def gateV : Value := .agg #[.bool true, .int .i64 1, .int .i64 1, .slice none 0 0, .slice none 0 0, .slice none 0 0]

set_option maxRecDepth 100000 in
set_option maxHeartbeats 1000000 in
theorem gateStart_any (w : World) :
    Calls Tryd.prog 59 #[] w fun e w' => e = .returned gateV ∧ Below w.heap.size w w' := by
  go_enter Tryd.func59, Tryd.ntmps59
  go_wp2_with fail
  refine bodyPost_ret (results_cell_row rfl _ _ w.heap.size _ _ _ _ rfl (heap_alloc_new _ _) Tryd.underlying88 rfl (by kernel_rfl)) rfl ?_
  exact ⟨rfl, (Below.refl _ _).alloc (Nat.le_refl _) _⟩

def houseV (i : Int) (a : Option Addr) (n c : Nat) : Value := .agg #[.int .i64 i, .bool true, .slice none 0 0, .int .i64 0, .slice a n c, .slice none 0 0]

set_option maxHeartbeats 400000 in
theorem l12House_any (i : Int) (w : World) (h0 : 0 ≤ i) (h2 : i ≤ 2) :
    Calls Tryd.prog 67 #[.int .i64 i] w fun e w' => e = .returned (.bool true) ∧ w' = w := by
  go_enter Tryd.func67, Tryd.ntmps67
  go_wp2_with (go_at_call 27; refine (l6In_any _ _ _ _).mono ?_; rintro e w' ⟨rfl, rfl⟩)
  go_ret
  exact ⟨ret_bool (by simp [inB, h0, h2]), rfl⟩

set_option maxRecDepth 100000 in
set_option maxHeartbeats 1000000 in
theorem houseStart_any (i : Int) (w : World) (h0 : 0 ≤ i) (h2 : i ≤ 2) :
    Calls Tryd.prog 60 #[.int .i64 i] w fun e w' => ∃ a n c, e = .returned (houseV i a n c) ∧ Below w.heap.size w w' := by
  go_enter Tryd.func60, Tryd.ntmps60
  go_wp2_with fail
  refine (l12House_any i _ h0 h2).mono ?_; rintro e w' ⟨rfl, rfl⟩
  go_wp2_with fail
  refine (locks_any _).mono ?_; rintro e w1 ⟨a, n, c, rfl, h1⟩
  have hb : w1.heap[w.heap.size]? = some (.cells #[.int .i64 0, .bool false, .slice none 0 0, .int .i64 0, .slice none 0 0, .slice none 0 0] 113 (0, 0)) := (h1.block w.heap.size (by simp)).trans (heap_alloc_new _ _)
  have HB := hide hb
  clear hb
  go_wp2_with (refine wpList_store_row rfl 113 _ _ rfl w.heap.size _ rfl rfl 113 _ (unhide HB) (by kernel_rfl) rfl (by simp [Value.oneCell']) ?_)
  refine bodyPost_ret (results_cell_row rfl _ _ w.heap.size _ _ _ _ rfl (setRow_heap _ _ _ _ _ _ (unhide HB)) Tryd.underlying113 rfl (by kernel_rfl)) rfl ?_
  exact ⟨a, n, c, rfl, below_setRow (((Below.refl _ _).alloc (Nat.le_refl _) _).trans (h1.mono (by simp))) (Nat.le_refl _) _⟩

end Go.Proofs.YtmikdkdgpomiaaaDoor
