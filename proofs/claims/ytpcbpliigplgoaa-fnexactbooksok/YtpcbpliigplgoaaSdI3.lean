/- When books are ok: the program's answer; books are like themselves. -/
import Derived.Test.YtpcbpliigplgoaaSdI2
import Derived.Test.YtpcbpliigplgoaaSdS3
namespace Go.Proofs.Ytpcbpliigplgoaa
open Go.RowKit

set_option maxRecDepth 100000 in
set_option maxHeartbeats 2000000 in
theorem implBooksOk_any (t v : Int) (u st sd : Value) (L : List Int) (ps : List Pr) (ss : List Sd) (w : World) (h : BkAt w u st sd L ps ss) :
    Calls Try.prog 13 #[.agg #[.int .i64 t, .int .i64 v, u, st, sd]] w fun e w' => e = .returned (.bool (booksB t v L ps ss)) ∧ Below w.heap.size w w' := by
  have HH := hide h
  obtain ⟨a, c, rfl, -⟩ := h.ins.slice
  obtain ⟨a1, c1, rfl, -⟩ := h.prs.shape
  obtain ⟨a2, c2, rfl, -⟩ := h.sds.shape
  have bA := (Below.refl w.heap.size w).alloc (Nat.le_refl _) (.cells #[.int .i64 t, .int .i64 v, .slice a L.length c, .slice a1 ps.length c1, .slice a2 ss.length c2] 47)
  have HA := hide bA
  have HX := hide (Box.made w 47 #[.int .i64 t, .int .i64 v, .slice a L.length c, .slice a1 ps.length c1, .slice a2 ss.length c2])
  have HK := hide (h.kept bA)
  clear h bA HH
  generalize L.length = nl at *
  generalize ps.length = np at *
  generalize ss.length = ns at *
  by_cases h1 : 0 ≤ t
  case neg =>
    have HF : Hid (booksB t v L ps ss = false) := by
      show booksB t v L ps ss = false
      have : inB t 0 60 = false := by simp [inB]; omega
      simp only [booksB, this, Bool.false_and]
    go_enter Try.func13, Try.ntmps13
    go_wp2_with fail
    go_ret
    exact ⟨ret_bool (unhide HF).symm, unhide HA⟩
  by_cases h2 : t ≤ 60
  case neg =>
    have HF : Hid (booksB t v L ps ss = false) := by
      show booksB t v L ps ss = false
      have : inB t 0 60 = false := by simp [inB]; omega
      simp only [booksB, this, Bool.false_and]
    go_enter Try.func13, Try.ntmps13
    go_wp2_with fail
    go_ret
    exact ⟨ret_bool (unhide HF).symm, unhide HA⟩
  have t1 : inB t 0 60 = true := by simp [inB, h1, h2]
  go_enter Try.func13, Try.ntmps13
  go_wp2_with fail
  refine (implMapOk_any v _ L _ (unhide HK).ins).mono ?_; rintro e w2 ⟨rfl, hb2⟩
  have HB2 := hide ((unhide HA).trans (hb2.mono (unhide HA).size))
  have HX2 := hide ((unhide HX).kept hb2)
  have HK2 := hide ((unhide HK).kept hb2)
  clear hb2 HX HK
  cases t2 : mapOk v L
  · have HF : Hid (booksB t v L ps ss = false) := by show booksB t v L ps ss = false; simp only [booksB, t2, Bool.and_false, Bool.false_and]
    go_wp2_with fail
    go_ret
    exact ⟨ret_bool (unhide HF).symm, unhide HB2⟩
  obtain ⟨q0, q1, q2, q3, q4⟩ := (unhide HX2).five
  go_wp2_with fail
  refine (storeOk_any _ ps _ (unhide HK2).prs).mono ?_; rintro e w3 ⟨rfl, hb3⟩
  have HB3 := hide ((unhide HB2).trans (hb3.mono (unhide HB2).size))
  have HX3 := hide ((unhide HX2).kept hb3)
  have HK3 := hide ((unhide HK2).kept hb3)
  clear hb3 HX2 HK2 q0 q1 q2 q3 q4
  cases t3 : storeB ps
  · have HF : Hid (booksB t v L ps ss = false) := by show booksB t v L ps ss = false; simp only [booksB, t3, Bool.and_false, Bool.false_and]
    go_wp2_with fail
    go_ret
    exact ⟨ret_bool (unhide HF).symm, unhide HB3⟩
  obtain ⟨q0, q1, q2, q3, q4⟩ := (unhide HX3).five
  go_wp2_with fail
  refine (saidOk_any _ ss _ (unhide HK3).sds).mono ?_; rintro e w4 ⟨rfl, hb4⟩
  have HB4 := hide ((unhide HB3).trans (hb4.mono (unhide HB3).size))
  clear hb4
  have HF : Hid (booksB t v L ps ss = saidB ss) := by show booksB t v L ps ss = saidB ss; simp only [booksB, t1, t2, t3, Bool.true_and]
  go_wp2_with fail
  go_ret
  exact ⟨ret_bool (unhide HF).symm, unhide HB4⟩

set_option maxRecDepth 100000 in
set_option maxHeartbeats 2000000 in
theorem eqBooksSelf_any (t v : Int) (u st sd u' st' sd' : Value) (L : List Int) (ps : List Pr) (ss : List Sd) (w : World) (h : BkAt w u st sd L ps ss) (h' : BkAt w u' st' sd' L ps ss) :
    Calls Try.prog 14 #[.agg #[.int .i64 t, .int .i64 v, u, st, sd], .agg #[.int .i64 t, .int .i64 v, u', st', sd']] w fun e w' => e = .returned (.bool true) ∧ Below w.heap.size w w' := by
  obtain ⟨a, c, rfl, -⟩ := h.ins.slice
  obtain ⟨a1, c1, rfl, -⟩ := h.prs.shape
  obtain ⟨a2, c2, rfl, -⟩ := h.sds.shape
  obtain ⟨b, d, rfl, -⟩ := h'.ins.slice
  obtain ⟨b1, d1, rfl, -⟩ := h'.prs.shape
  obtain ⟨b2, d2, rfl, -⟩ := h'.sds.shape
  have bA : Below w.heap.size w ((w.alloc (.cells #[.int .i64 t, .int .i64 v, .slice a L.length c, .slice a1 ps.length c1, .slice a2 ss.length c2] 47)).alloc (.cells #[.int .i64 t, .int .i64 v, .slice b L.length d, .slice b1 ps.length d1, .slice b2 ss.length d2] 47)) := ((Below.refl _ _).alloc (Nat.le_refl _) _).alloc (by simp) _
  have HA := hide bA
  have HX := hide ((Box.made w 47 #[.int .i64 t, .int .i64 v, .slice a L.length c, .slice a1 ps.length c1, .slice a2 ss.length c2]).alloc (.cells #[.int .i64 t, .int .i64 v, .slice b L.length d, .slice b1 ps.length d1, .slice b2 ss.length d2] 47))
  have hy := Box.made (w.alloc (.cells #[.int .i64 t, .int .i64 v, .slice a L.length c, .slice a1 ps.length c1, .slice a2 ss.length c2] 47)) 47 #[.int .i64 t, .int .i64 v, .slice b L.length d, .slice b1 ps.length d1, .slice b2 ss.length d2]
  rw [show (w.alloc (.cells #[.int .i64 t, .int .i64 v, .slice a L.length c, .slice a1 ps.length c1, .slice a2 ss.length c2] 47)).heap.size = w.heap.size + 1 by simp] at hy
  have HY := hide hy
  have HK := hide (h.kept bA)
  have HL := hide (h'.kept bA)
  have hee := eqMapB_self v L
  have hpp := eqPrs_self ps
  have hss := eqSds_self ss
  have htt : (t != t) = false := by simp
  clear h h' bA hy
  generalize L.length = nl at *
  generalize ps.length = np at *
  generalize ss.length = ns at *
  go_enter Try.func14, Try.ntmps14
  go_wp2_with fail
  refine (eqMap_any v v _ _ L L _ (unhide HK).ins (unhide HL).ins).mono ?_; rintro e w1 ⟨rfl, hb1⟩
  have HB1 := hide ((unhide HA).trans (hb1.mono (unhide HA).size))
  have HX1 := hide ((unhide HX).kept hb1)
  have HY1 := hide ((unhide HY).kept hb1)
  have HK1 := hide ((unhide HK).kept hb1)
  have HL1 := hide ((unhide HL).kept hb1)
  clear hb1 HX HY HK HL
  obtain ⟨q0, q1, q2, q3, q4⟩ := (unhide HX1).five
  obtain ⟨r0, r1, r2, r3, r4⟩ := (unhide HY1).five
  go_wp2_with fail
  refine (eqPrs_any _ _ ps ps _ (unhide HK1).prs (unhide HL1).prs).mono ?_; rintro e w2 ⟨rfl, hb2⟩
  have HB2 := hide ((unhide HB1).trans (hb2.mono (unhide HB1).size))
  have HX2 := hide ((unhide HX1).kept hb2)
  have HY2 := hide ((unhide HY1).kept hb2)
  have HK2 := hide ((unhide HK1).kept hb2)
  have HL2 := hide ((unhide HL1).kept hb2)
  clear hb2 HX1 HY1 HK1 HL1 q0 q1 q2 q3 q4 r0 r1 r2 r3 r4
  obtain ⟨q0, q1, q2, q3, q4⟩ := (unhide HX2).five
  obtain ⟨r0, r1, r2, r3, r4⟩ := (unhide HY2).five
  go_wp2_with fail
  refine (eqSds_any _ _ ss ss _ (unhide HK2).sds (unhide HL2).sds).mono ?_; rintro e w3 ⟨rfl, hb3⟩
  have HB3 := hide ((unhide HB2).trans (hb3.mono (unhide HB2).size))
  clear hb3
  go_wp2_with fail
  go_ret
  exact ⟨rfl, unhide HB3⟩

end Go.Proofs.Ytpcbpliigplgoaa
