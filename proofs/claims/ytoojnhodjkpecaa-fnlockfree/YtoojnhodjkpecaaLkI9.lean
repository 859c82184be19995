/- slices.Insert of one hold into a row of one's own. -/
import Derived.Test.YtoojnhodjkpecaaInsK
import Derived.Test.YtoojnhodjkpecaaLkN
import Derived.Deep.RegionLaw
namespace Go.Proofs.Ytoojnhodjkpecaa
open Go.RowKit Go.Shelf

set_option maxRecDepth 100000 in
set_option maxHeartbeats 2000000 in
theorem insert_end (v : Value) (hs : List Hd) (x : Hd) (base vb : Nat) (w : World) (hown : w.ownsRow base 27 4 v hs.length (hs.flatMap hdE)) (hn : hs.length ≤ 1000) (hbx : Bx w vb 27 #[.int .i64 x.stamp, .int .i64 x.try_, .bool x.share, .bool x.firm]) (hbase : base ≤ w.heap.size) :
    Calls Try.prog 75 #[v, .int .i64 hs.length, .slice (some ⟨vb, 0, none⟩) 1 1] w fun e w' => ∃ r, e = .returned r ∧ w'.ownsRow base 27 4 r (hs ++ [x]).length ((hs ++ [x]).flatMap hdE) ∧ w.grownBy w' v.ownBlock ∧ (r.ownBlock = v.ownBlock ∨ r.ownBlock = some w.heap.size) := by
  obtain ⟨i0, hi, hz0, hz1, hz2⟩ := info_parts Try.infoHd
  have HO := hide hown
  have HX := hide hbx
  rcases hown.2 with ⟨rfl, h0⟩ | ⟨g, c, cur, rfl, _, _, hc1, hc2, _⟩
  · have hsn : hs = [] := List.eq_nil_of_length_eq_zero h0
    subst hsn
    clear hown hbx h0
    go_enter Try.func75, Try.ntmps75
    go_wp2_with (at_builtin; refine wpList_append_at rfl _ _ 23 rfl base 27 i0 (.agg #[.int .i64 0, .int .i64 0, .bool false, .bool false]) 4 24 Try.underlying23 hi hz0 hz1 hz2 rfl (by decide) _ 0 [] rfl (unhide HO) (some ⟨vb, 0, none⟩) 1 1 [.int .i64 x.stamp, .int .i64 x.try_, .bool x.share, .bool x.firm] rfl rfl (.inr ⟨by decide, _, rfl, World.news_of_block (unhide HX).row⟩) (by simp [Value.oneCell']) (by unfold maxLen; omega) (by omega) hbase w.heap.size rfl ?_; intro b9 cap9 w9 hown9 hgrow9 hat9; have HO9 := hide hown9; have HG9 := hide hgrow9; have HA9 := hide hat9; clear hown9 hgrow9 hat9)
    go_ret
    exact ⟨_, rfl, unhide HO9, unhide HG9, unhide HA9⟩
  unfold maxLen at hc2
  generalize hN : hs.length = N at *
  have HNE := hide hN
  have HL : Hid ((hs ++ [x]).length = N + 1) := by show (hs ++ [x]).length = N + 1; rw [← hN]; simp
  have HL2 : Hid ((hs ++ [x]).flatMap hdE = hs.flatMap hdE ++ [.int .i64 x.stamp, .int .i64 x.try_, .bool x.share, .bool x.firm]) := by show (hs ++ [x]).flatMap hdE = _; rw [List.flatMap_append]; rfl
  rw [unhide HL, unhide HL2]
  generalize hF : hs.flatMap hdE = F at *
  clear hF hown hbx hN HL HL2
  by_cases hcn : c = N
  all_goals
    go_enter Try.func75, Try.ntmps75
    go_wp2_with (at_builtin; refine wpList_append_at rfl _ _ 23 rfl base 27 i0 (.agg #[.int .i64 0, .int .i64 0, .bool false, .bool false]) 4 24 Try.underlying23 hi hz0 hz1 hz2 rfl (by decide) _ N F rfl (unhide HO) (some ⟨vb, 0, none⟩) 1 1 [.int .i64 x.stamp, .int .i64 x.try_, .bool x.share, .bool x.firm] rfl rfl (.inr ⟨by decide, _, rfl, World.news_of_block (unhide HX).row⟩) (by simp [Value.oneCell']) (by unfold maxLen; omega) (by omega) hbase w.heap.size rfl ?_; intro b9 cap9 w9 hown9 hgrow9 hat9; have HO9 := hide hown9; have HG9 := hide hgrow9; have HA9 := hide hat9; clear hown9 hgrow9 hat9)
    go_ret
    exact ⟨_, rfl, unhide HO9, unhide HG9, unhide HA9⟩

end Go.Proofs.Ytoojnhodjkpecaa
