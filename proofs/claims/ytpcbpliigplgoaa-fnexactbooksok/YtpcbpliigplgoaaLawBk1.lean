/- The law FnExactBooksOk answers true. -/
import Derived.Test.YtpcbpliigplgoaaSdI3
namespace Go.Proofs.Ytpcbpliigplgoaa
open Go.RowKit

theorem BkAt.drewK {w : World} {u st sd : Value} {L : List Int} {ps : List Pr} {ss : List Sd} (h : BkAt w u st sd L ps ss) : BkAt w.drew u st sd L ps ss := h.kept ((Below.refl _ _).drew)

set_option maxRecDepth 100000 in
set_option maxHeartbeats 4000000 in
theorem lawBooksOk_any (t v : Int) (u st sd : Value) (L : List Int) (ps : List Pr) (ss : List Sd) (w : World) (h : BkAt w u st sd L ps ss) :
    Calls Try.prog 4 #[.agg #[.int .i64 t, .int .i64 v, u, st, sd]] w fun e w' => e = .returned (.bool true) ∧ Below w.heap.size w w' := by
  have HU := hide h
  obtain ⟨a, c, rfl, -⟩ := h.ins.slice
  obtain ⟨a1, c1, rfl, -⟩ := h.prs.shape
  obtain ⟨a2, c2, rfl, -⟩ := h.sds.shape
  have bA : Below w.heap.size w (w.alloc (.cells #[.int .i64 t, .int .i64 v, .slice a L.length c, .slice a1 ps.length c1, .slice a2 ss.length c2] 41)) := (Below.refl _ _).alloc (Nat.le_refl _) _
  have HA := hide bA
  have HX := hide (Box.made w 41 #[.int .i64 t, .int .i64 v, .slice a L.length c, .slice a1 ps.length c1, .slice a2 ss.length c2])
  have hok : (booksB t v L ps ss != booksB t v L ps ss) = false := by simp
  generalize hB : booksB t v L ps ss = B at *
  have EB := hide hB
  clear h bA hB
  go_enter Try.func4, Try.ntmps4
  go_wp2_with fail
  refine (szBooks_any t v _ _ _ L ps ss _ ((unhide HU).kept (unhide HA))).mono ?_; rintro e w1 ⟨r, rfl, hr, hb1⟩
  have HB1 := hide ((unhide HA).trans (hb1.mono (unhide HA).size))
  have HX1 := hide ((unhide HX).kept hb1)
  have HR := hide hr
  clear hb1 HX hr
  by_cases hr0 : r < 0
  · go_wp2_with fail
    go_ret
    exact ⟨rfl, unhide HB1⟩
  have hfit : BkFit L ps ss := by
    rcases unhide HR with h | h
    · omega
    · exact h.2
  have HFT := hide hfit
  clear hfit
  obtain ⟨q0, q1, q2, q3, q4⟩ := (unhide HX1).five
  go_wp2_with fail
  refine (toBooks_any t v _ _ _ L ps ss _ ((unhide HU).kept (unhide HB1)) (unhide HFT)).mono ?_; rintro e w2 ⟨x1, x2, x3, rfl, hk2, hb2⟩
  have HB2 := hide ((unhide HB1).trans (hb2.mono (unhide HB1).size))
  have HX2 := hide ((unhide HX1).kept hb2)
  have HK2 := hide hk2
  clear hb2 hk2 HX1 q0 q1 q2 q3 q4
  go_wp2_with fail
  refine (specBooksOk_any t v _ _ _ L ps ss _ (unhide HK2)).mono ?_; rintro e w3 ⟨rfl, hb3⟩
  rw [unhide EB]
  have HB3 := hide ((unhide HB2).trans (hb3.mono (unhide HB2).size))
  have HX3 := hide ((unhide HX2).kept hb3)
  clear hb3 HX2 HK2
  obtain ⟨q0, q1, q2, q3, q4⟩ := (unhide HX3).five
  go_wp2_with fail
  refine (toBooks_any t v _ _ _ L ps ss _ ((unhide HU).kept (unhide HB3)) (unhide HFT)).mono ?_; rintro e w4 ⟨y1, y2, y3, rfl, hk4, hb4⟩
  have HO4 := hide (Box.made w4 47 #[.int .i64 t, .int .i64 v, .slice (some ⟨y1, 0, none⟩) L.length L.length, .slice (some ⟨y2, 0, none⟩) ps.length ps.length, .slice (some ⟨y3, 0, none⟩) ss.length ss.length])
  have bB : Below w4.heap.size w4 (w4.alloc (.cells #[.int .i64 t, .int .i64 v, .slice (some ⟨y1, 0, none⟩) L.length L.length, .slice (some ⟨y2, 0, none⟩) ps.length ps.length, .slice (some ⟨y3, 0, none⟩) ss.length ss.length] 47)) := (Below.refl _ _).alloc (Nat.le_refl _) _
  have b4 := (unhide HB3).trans (hb4.mono (unhide HB3).size)
  have HB4 := hide (b4.trans (bB.mono b4.size))
  have HX4 := hide (((unhide HX3).kept hb4).kept bB)
  have HK4 := hide (hk4.kept bB)
  have lx4 := ((unhide HX3).kept hb4).lt
  clear hb4 hk4 bB b4 HX3 q0 q1 q2 q3 q4
  go_wp2_with fail
  refine (implBooksOk_any t v _ _ _ L ps ss _ (unhide HK4)).mono ?_; rintro e w5 ⟨rfl, hb5⟩
  rw [unhide EB]
  have HB5 := hide ((unhide HB4).trans (hb5.mono (unhide HB4).size))
  have HX5 := hide ((unhide HX4).kept hb5)
  have HO5 := hide ((unhide HO4).kept hb5)
  have HK5 := hide ((unhide HK4).kept hb5)
  have lx5 := (unhide HX5).lt
  have lo5 := (unhide HO5).lt
  clear hb5 HX4 HO4 HK4
  obtain ⟨q0, q1, q2, q3, q4⟩ := (unhide HX5).five
  obtain ⟨o0, o1, o2, o3, o4⟩ := (unhide HO5).five
  go_wp2_with fail
  go_region_with (first
    | (go_at_call 12; refine (toBooks_any t v _ _ _ L ps ss _ ((unhide HU).kept (unhide HB5).drew) (unhide HFT)).mono ?_; rintro e w6 ⟨z1, z2, z3, rfl, hk6, hb6⟩; have hb6' : Below w5.heap.size w5 w6 := ((Below.refl _ _).drew).trans hb6; have o0' := cell_kept hb6' o0; have o1' := cell_kept hb6' o1; have o2' := cell_kept hb6' o2; have o3' := cell_kept hb6' o3; have o4' := cell_kept hb6' o4; have HK6 := hide hk6; have HB6 := hide hb6'; clear hk6 hb6 hb6')
    | (go_at_call 14; refine (eqBooksSelf_any t v _ _ _ _ _ _ L ps ss _ ((unhide HK5).kept (unhide HB6)) (unhide HK6)).mono ?_; rintro e w7 ⟨rfl, hb7⟩))
  all_goals go_wp2_with fail
  all_goals go_ret
  all_goals
    have b6 := (unhide HB5).trans ((unhide HB6).mono (unhide HB5).size)
    exact ⟨rfl, b6.trans (hb7.mono b6.size)⟩

end Go.Proofs.Ytpcbpliigplgoaa
