/- When books are ok: the specification's answer. -/
import Derived.Test.YtpcbpliigplgoaaSdS2
namespace Go.Proofs.Ytpcbpliigplgoaa
open Go.RowKit

set_option maxRecDepth 100000 in
set_option maxHeartbeats 2000000 in
theorem specBooksOk_any (t v : Int) (u st sd : Value) (L : List Int) (ps : List Pr) (ss : List Sd) (w : World) (h : BkAt w u st sd L ps ss) :
    Calls Try.prog 11 #[.agg #[.int .i64 t, .int .i64 v, u, st, sd]] w fun e w' => e = .returned (.bool (booksB t v L ps ss)) ∧ Below w.heap.size w w' := by
  have HH := hide h
  obtain ⟨a, c, rfl, -⟩ := h.ins.slice
  obtain ⟨a1, c1, rfl, -⟩ := h.prs.shape
  obtain ⟨a2, c2, rfl, -⟩ := h.sds.shape
  have bA := (Below.refl w.heap.size w).alloc (Nat.le_refl _) (.cells #[.int .i64 t, .int .i64 v, .slice a L.length c, .slice a1 ps.length c1, .slice a2 ss.length c2] 47)
  have HA := hide bA
  have HX := hide (Box.made w 47 #[.int .i64 t, .int .i64 v, .slice a L.length c, .slice a1 ps.length c1, .slice a2 ss.length c2])
  have HK := hide (h.kept bA)
  clear h bA HH
  generalize L.length = nl at *
  generalize ps.length = np at *
  generalize ss.length = ns at *
  cases t1 : inB t 0 60
  · have HF : Hid (booksB t v L ps ss = false) := by show booksB t v L ps ss = false; simp only [booksB, t1, Bool.false_and]
    go_enter Try.func11, Try.ntmps11
    go_wp2_with fail
    refine (l6In_any _ _ _ _).mono ?_; rintro e w1 ⟨rfl, rfl⟩
    rw [t1]
    go_wp2_with fail
    go_ret
    exact ⟨ret_bool (unhide HF).symm, unhide HA⟩
  go_enter Try.func11, Try.ntmps11
  go_wp2_with fail
  refine (l6In_any _ _ _ _).mono ?_; rintro e w1 ⟨rfl, rfl⟩
  rw [t1]
  go_wp2_with fail
  refine (specMapOk_any v _ L _ (unhide HK).ins).mono ?_; rintro e w2 ⟨rfl, hb2⟩
  have HB2 := hide ((unhide HA).trans (hb2.mono (unhide HA).size))
  have HX2 := hide ((unhide HX).kept hb2)
  have HK2 := hide ((unhide HK).kept hb2)
  clear hb2 HX HK
  cases t2 : mapOk v L
  · have HF : Hid (booksB t v L ps ss = false) := by show booksB t v L ps ss = false; simp only [booksB, t2, Bool.and_false, Bool.false_and]
    go_wp2_with fail
    go_ret
    exact ⟨ret_bool (unhide HF).symm, unhide HB2⟩
  obtain ⟨q0, q1, q2, q3, q4⟩ := (unhide HX2).five
  go_wp2_with fail
  refine (l3StoreOk_any _ ps _ (unhide HK2).prs).mono ?_; rintro e w3 ⟨rfl, hb3⟩
  have HB3 := hide ((unhide HB2).trans (hb3.mono (unhide HB2).size))
  have HX3 := hide ((unhide HX2).kept hb3)
  have HK3 := hide ((unhide HK2).kept hb3)
  clear hb3 HX2 HK2 q0 q1 q2 q3 q4
  cases t3 : storeB ps
  · have HF : Hid (booksB t v L ps ss = false) := by show booksB t v L ps ss = false; simp only [booksB, t3, Bool.and_false, Bool.false_and]
    go_wp2_with fail
    go_ret
    exact ⟨ret_bool (unhide HF).symm, unhide HB3⟩
  obtain ⟨q0, q1, q2, q3, q4⟩ := (unhide HX3).five
  go_wp2_with fail
  refine (l3SaidOk_any _ ss _ (unhide HK3).sds).mono ?_; rintro e w4 ⟨rfl, hb4⟩
  have HB4 := hide ((unhide HB3).trans (hb4.mono (unhide HB3).size))
  clear hb4
  have HF : Hid (booksB t v L ps ss = saidB ss) := by show booksB t v L ps ss = saidB ss; simp only [booksB, t1, t2, t3, Bool.true_and]
  go_wp2_with fail
  go_ret
  exact ⟨ret_bool (unhide HF).symm, unhide HB4⟩

end Go.Proofs.Ytpcbpliigplgoaa
