/- The law FnMapMove answers true at every code. -/
import Derived.Test.YtmclmdleplfgeaaMapD2
import Derived.Test.YtmclmdleplfgeaaMapLo
namespace Go.Proofs.Ytmclmdleplfgeaa
open Go.RowKit

theorem move_done {v : Int} {xs : List Int} {s t : Int} (hc : moveCode v xs s t = 0) : slB s = true ∧ hsB t = true ∧ v ≠ 99 := by
  have hst : slB s = true ∧ hsB t = true := by
    cases h1 : slB s <;> cases h2 : hsB t <;> first | exact ⟨rfl, rfl⟩ | (rw [code_9 (by simp [h1, h2])] at hc; simp at hc)
  exact ⟨hst.1, hst.2, fun e => by rw [code_2 hst.1 hst.2 e] at hc; simp at hc⟩

theorem InsAt.cells {w : World} {a : Option Addr} {n c : Nat} {xs : List Int} (h : InsAt w (.slice a n c) xs) (h0 : xs ≠ []) : n = xs.length ∧ ∃ b off, a = some ⟨b, off, none⟩ ∧ InCells w b off n xs := by
  obtain ⟨a', cap, he, h1, h2, h3⟩ := h
  simp at he
  obtain ⟨rfl, rfl, rfl⟩ := he
  rcases h3 with h3 | h3
  · exact absurd h3 h0
  · exact ⟨rfl, h3⟩

set_option maxRecDepth 100000 in
set_option maxHeartbeats 8000000 in
theorem lawMove_any (v : Value) (n : Nat) (w : World) (hv : BytesAt w v n) :
    Calls Try.prog 4 #[v] w fun e w' => e = .returned (.bool true) ∧ Below w.heap.size w w' := by
  have HV := hide hv
  obtain ⟨a0, cap0, rfl, h1, h2, -⟩ := hv
  unfold maxLen at h2
  by_cases hn : 1048576 < (n : Int)
  · go_enter Try.func4, Try.ntmps4
    go_wp2_with fail
    go_ret
    exact ⟨rfl, Below.refl _ _⟩
  go_enter Try.func4, Try.ntmps4
  go_wp2_with fail
  refine (drawMapMove_any _ n _ (unhide HV)).mono ?_; rintro e w1 ⟨V, a, m, c, L, s, t, rfl, hi1, hl1, hV1, hV2, hs1, hs2, ht1, ht2, b1⟩
  have bM : Below w1.heap.size w1 (w1.alloc (.cells #[.int .i64 V, .slice a m c] 25)) := (Below.refl _ _).alloc (Nat.le_refl _) _
  have HX1 := hide (Box.made w1 25 #[.int .i64 V, .slice a m c])
  have HI1 := hide (hi1.kept bM)
  have HB1 := hide (b1.trans (bM.mono b1.size))
  clear hi1 b1 bM HV h1 h2
  have hspec := fun w h => specMove_any V (.slice a m c) L s t w h
  have himpl := fun w h => implMove_any V (.slice a m c) L s t w h
  generalize hmv : moveV V L s t = MV at *
  generalize hmc : moveC V L s t = MC at *
  generalize hml : moveL V L s t = ML at *
  have HSP := hide hspec
  have HIM := hide himpl
  have EMV := hide hmv
  have EMC := hide hmc
  have EML := hide hml
  have hee := eqMapB_self MV ML
  have hcc : (MC != MC) = false := by simp
  clear hspec himpl hmv hmc hml
  go_wp2_with fail
  refine (unhide HSP _ (unhide HI1)).mono ?_; rintro e w2 ⟨r2, rfl, ho2, hb2⟩
  obtain ⟨a2, c2, rfl, -⟩ := ownsRow_slice ho2
  have bW : Below w2.heap.size w2 (w2.alloc (.cells #[.int .i64 MV, .slice a2 ML.length c2] 25)) := (Below.refl _ _).alloc (Nat.le_refl _) _
  have HW2 := hide (Box.made w2 25 #[.int .i64 MV, .slice a2 ML.length c2])
  have HX2 := hide (((unhide HX1).kept hb2).kept bW)
  have HI2 := hide (((unhide HI1).kept hb2).kept bW)
  have HJ2 := hide ((owned_ins ho2).1.kept bW)
  have HB2 := hide (((unhide HB1).trans (hb2.mono (unhide HB1).size)).trans (bW.mono (by have := (unhide HB1).size; have := hb2.size; omega)))
  have lg2 := ((unhide HX1).kept hb2).lt
  clear ho2 hb2 bW HX1 HI1
  obtain ⟨p0, p1⟩ := (unhide HX2).two
  go_wp2_with fail
  refine (specMapOk_any V _ L _ (unhide HI2)).mono ?_; rintro e w3 ⟨rfl, hb3⟩
  have HW3 := hide ((unhide HW2).kept hb3)
  have HX3 := hide ((unhide HX2).kept hb3)
  have HI3 := hide ((unhide HI2).kept hb3)
  have HJ3 := hide ((unhide HJ2).kept hb3)
  have HB3 := hide ((unhide HB2).trans (hb3.mono (unhide HB2).size))
  clear p0 p1 hb3 HW2 HX2 HI2 HJ2
  obtain ⟨p0, p1⟩ := (unhide HX3).two
  go_wp2_with fail
  refine (unhide HIM _ (unhide HI3)).mono ?_; rintro e w4 ⟨r4, rfl, hi4, ho4, hb4⟩
  obtain ⟨a4, c4, rfl⟩ := ho4.slice
  have bG : Below w4.heap.size w4 (w4.alloc (.cells #[.int .i64 MV, .slice a4 ML.length c4] 25)) := (Below.refl _ _).alloc (Nat.le_refl _) _
  have HG4 := hide (Box.made w4 25 #[.int .i64 MV, .slice a4 ML.length c4])
  have lw := ((unhide HW3).kept hb4).lt
  have lx := ((unhide HX3).kept hb4).lt
  have HW4 := hide (((unhide HW3).kept hb4).kept bG)
  have HX4 := hide (((unhide HX3).kept hb4).kept bG)
  have HI4 := hide (((unhide HI3).kept hb4).kept bG)
  have HJ4 := hide (((unhide HJ3).kept hb4).kept bG)
  have HK4 := hide (hi4.kept bG)
  have HB4 := hide (((unhide HB3).trans (hb4.mono (unhide HB3).size)).trans (bG.mono (by have := (unhide HB3).size; have := hb4.size; omega)))
  clear p0 p1 hi4 ho4 hb4 bG HW3 HX3 HI3 HJ3
  obtain ⟨p0, p1⟩ := (unhide HW4).two
  go_wp2_with fail
  refine (loMap_any MV MV _ _ ML ML _ (unhide HK4) (unhide HJ4)).mono ?_; rintro e w5 ⟨rfl, hb5⟩
  have HG5 := hide ((unhide HG4).kept hb5)
  have HX5 := hide ((unhide HX4).kept hb5)
  have HI5 := hide ((unhide HI4).kept hb5)
  have HK5 := hide ((unhide HK4).kept hb5)
  have HB5 := hide ((unhide HB4).trans (hb5.mono (unhide HB4).size))
  clear p0 p1 hb5 HW4 HG4 HX4 HI4 HJ4 HK4
  obtain ⟨g0, g1⟩ := (unhide HG5).two
  obtain ⟨x0, x1'⟩ := (unhide HX5).two
  cases hm : mapOk V L
  · obtain ⟨e1, e2, e3⟩ := moveC_bad s t hm
    have f1 : MC = 9 := (unhide EMC).symm.trans e1
    have f2 : MV = 0 := (unhide EMV).symm.trans e2
    clear e1 e2 e3
    subst f1 f2
    go_wp2_with fail
    go_ret
    exact ⟨rfl, unhide HB5⟩
  by_cases hc : moveCode V L s t = 0
  case neg =>
    obtain ⟨e1, e2, e3⟩ := moveC_ok hm hc
    have f1 : MC = moveCode V L s t := (unhide EMC).symm.trans e1
    have f2 : MV = V := (unhide EMV).symm.trans e2
    have f3 : ML = L := (unhide EML).symm.trans e3
    have f4 : (MC != 0) = true := by rw [f1]; simpa using hc
    clear e1 e2 e3 hc f1
    subst f2 f3
    go_wp2_with fail
    refine (loMap_any MV MV _ _ ML ML _ (unhide HK5) (unhide HI5)).mono ?_; rintro e w6 ⟨rfl, hb6⟩
    go_wp2_with fail
    go_ret
    exact ⟨rfl, (unhide HB5).trans (hb6.mono (unhide HB5).size)⟩
  obtain ⟨e1, e2, e3⟩ := moveC_done hm hc
  obtain ⟨hss, htt, hv9⟩ := move_done hc
  obtain ⟨sb1, sb2⟩ := slB_bounds hss
  obtain ⟨vb1, vb2⟩ := mapOk_ver hm
  have hlen := mapOk_len hm
  have hokM := mapOk_move hm s t
  obtain ⟨S, rfl⟩ := Int.eq_ofNat_of_zero_le sb1
  have f1 : MC = 0 := (unhide EMC).symm.trans e1
  have f2 : MV = V + 1 := (unhide EMV).symm.trans e2
  have f3 : ML = L.set S t := (unhide EML).symm.trans e3
  have hokM' : mapOk MV ML = true := by rw [← unhide EMV, ← unhide EML]; exact hokM
  have hML : ML.length = 8 := by rw [f3, List.length_set]; exact hlen
  obtain ⟨rfl, b, off, rfl, hc0⟩ := (unhide HI5).cells (by intro e; rw [e] at hlen; simp at hlen)
  obtain ⟨-, b', off', rfl, hc1⟩ := (unhide HK5).cells (by intro e; rw [e] at hML; simp at hML)
  rw [hlen] at hc0
  rw [hML] at hc1
  rw [hlen] at x1'
  rw [hML] at g1
  have EL : Hid (L.length = 8) := hlen
  have EM : Hid (ML.length = 8) := hML
  have HSET := hide f3
  have HC0 := hide hc0
  have HC1 := hide hc1
  have HOKM := hide hokM'
  have hS8 : S < 8 := by omega
  have hSi : (S : Int) < 8 := by omega
  clear e1 e2 e3 hc hokM hokM' hc0 hc1 f3 hlen hML hss htt
  subst f1
  have F2 := hide f2
  clear f2
  go_wp2_with fail
  go_loopw [11] (fun i wr => ∃ j : Nat, j ≤ 8 ∧ i = .int .i64 j ∧ Below w5.heap.size w5 wr) (fun i _ => 8 - (intOf i).toNat)
  case atStart => exact ⟨0, by omega, rfl, Below.refl _ _⟩
  case round =>
    obtain ⟨j, hj, rfl, hbr⟩ := hrel
    have y0 := cell_kept hbr g0
    have y1 := cell_kept hbr g1
    have z0 := cell_kept hbr x0
    have z1 := cell_kept hbr x1'
    have HBR := hide hbr
    clear hbr
    by_cases hlt : j < 8
    · have hji : (j : Int) < 8 := by omega
      have hj0 : (0 : Int) ≤ (j : Int) := by omega
      have c0 := ((unhide HC0).kept (unhide HBR)) j hlt
      have c1 := ((unhide HC1).kept (unhide HBR)) j hlt
      by_cases hjs : j = S
      · have hjb : ((j : Int) != (S : Int)) = false := by rw [hjs]; simp
        clear c0 c1 hjs
        go_wp2
        go_quiet (fail)
        go_wp2
        go_roundw
        case rel => exact ⟨j + 1, hlt, by go_num, below_drewN (unhide HBR) _⟩
        case measure => simp [intOf]; omega
      · have hjb : ((j : Int) != (S : Int)) = true := by simp; omega
        have heq : ML.getD j 0 = L.getD j 0 := by rw [unhide HSET]; simp [List.getD, Ne.symm hjs]
        rw [heq] at c1
        generalize L.getD j 0 = x at *
        have hxx : (x != x) = false := by simp
        clear hjs heq
        go_wp2
        go_quiet (fail)
        go_wp2
        go_roundw
        case rel => exact ⟨j + 1, hlt, by go_num, below_drewN (unhide HBR) _⟩
        case measure => simp [intOf]; omega
    · have c1 := ((unhide HC1).kept (unhide HBR)) S hS8
      have heq : ML.getD S 0 = t := by rw [unhide HSET]; simp [List.getD, unhide EL, hS8]
      rw [heq] at c1
      have htt : (t == t) = true := by simp
      have hvv : (MV == V + 1) = true := by simpa using unhide F2
      clear heq
      go_wp2_with fail
      refine (implMapOk_any MV _ ML _ (by have := (unhide HK5).kept (unhide HBR); rw [unhide EM] at this; exact this)).mono ?_; rintro e w6 ⟨rfl, hb6⟩
      go_wp2_with fail
      go_ret
      have bb := (unhide HB5).trans ((unhide HBR).mono (unhide HB5).size)
      exact ⟨ret_bool (unhide HOKM), bb.trans (hb6.mono bb.size)⟩

end Go.Proofs.Ytmclmdleplfgeaa
