/- The law FnMapKeys answers true at every code. -/
import Derived.Test.YtililbmaelaofaaMapD2
import Derived.Test.YtililbmaelaofaaMapLo
namespace Go.Proofs.Ytililbmaelaofaa
open Go.RowKit

theorem house_no1 {V : Int} {L : List Int} {k : Int} (h : mapOk V L = false) : houseOf V L k = -1 := by simp [houseOf, h]
theorem house_no2 {V : Int} {L : List Int} {k : Int} (h : keyB k = false) : houseOf V L k = -1 := by simp [houseOf, h]
theorem house_ge {V : Int} {L : List Int} {k : Int} (hm : mapOk V L = true) (hk : keyB k = true) : 0 ≤ houseOf V L k := by
  obtain ⟨h1, h2⟩ := keyB_bounds hk
  have hl := mapOk_len hm
  have hq : (k * 8 / 32).toNat < L.length := by omega
  simp only [houseOf, hm, hk, Bool.and_self, if_true]
  have := List.all_eq_true.1 (mapOk_all hm) (L.getD (k * 8 / 32).toNat 0) (by simp [List.getD, hq])
  exact (hsB_bounds this).1
theorem slot_key {k : Int} (h1 : 0 ≤ k) (h2 : k ≤ 31) : keyB k = true ∧ slotOf k = k * 8 / 32 := by
  have : keyB k = true := by simp [keyB, inB]; omega
  exact ⟨this, by simp [slotOf, this]⟩
theorem house_slot {V : Int} {L : List Int} {k l : Int} (hk : keyB k = true) (hl : keyB l = true) (h : slotOf k = slotOf l) : houseOf V L k = houseOf V L l := by
  have e : k * 8 / 32 = l * 8 / 32 := by simpa [slotOf, hk, hl] using h
  simp only [houseOf, hk, hl, e]

theorem jstep {j : Nat} {K : Int} (h : (j : Int) - 1 = K) : Value.int .i64 (K + 1) = .int .i64 (((j + 1 : Nat) : Int) - 1) := by
  rw [← h]; congr 1; omega

set_option maxRecDepth 100000 in
set_option maxHeartbeats 8000000 in
theorem lawMapKeys_any (v : Value) (n : Nat) (w : World) (hv : BytesAt w v n) :
    Calls Try.prog 3 #[v] w fun e w' => e = .returned (.bool true) ∧ Below w.heap.size w w' := by
  have HV := hide hv
  obtain ⟨a0, cap0, rfl, h1, h2, -⟩ := hv
  unfold maxLen at h2
  by_cases hn : 1048576 < (n : Int)
  · go_enter Try.func3, Try.ntmps3
    go_wp2_with fail
    go_ret
    exact ⟨rfl, Below.refl _ _⟩
  have hspec := specStart_any
  have himpl := implStart_any
  have hlen := startL_length 8
  generalize startL 8 = LS at *
  have HSP := hide hspec
  have HIM := hide himpl
  have HLN := hide hlen
  have hee := eqMapB_self 1 LS
  clear hspec himpl hlen
  go_enter Try.func3, Try.ntmps3
  go_wp2_with fail
  refine (drawMapOk_any _ n _ (unhide HV)).mono ?_; rintro e w1 ⟨V, a, m, c, L, rfl, hi1, hl1, hV1, hV2, b1⟩
  have bM : Below w1.heap.size w1 (w1.alloc (.cells #[.int .i64 V, .slice a m c] 25)) := (Below.refl _ _).alloc (Nat.le_refl _) _
  have HX1 := hide (Box.made w1 25 #[.int .i64 V, .slice a m c])
  have HI1 := hide (hi1.kept bM)
  have HB1 := hide (b1.trans (bM.mono b1.size))
  clear hi1 b1 bM HV h1 h2
  go_wp2_with fail
  refine (specMapOk_any V _ L _ (unhide HI1)).mono ?_; rintro e w2 ⟨rfl, hb2⟩
  have HX2 := hide ((unhide HX1).kept hb2)
  have HI2 := hide ((unhide HI1).kept hb2)
  have HB2 := hide ((unhide HB1).trans (hb2.mono (unhide HB1).size))
  clear hb2 HX1 HI1
  obtain ⟨p0, p1⟩ := (unhide HX2).two
  have hok : (mapOk V L != mapOk V L) = false := by simp
  go_wp2_with fail
  refine (implMapOk_any V _ L _ (unhide HI2)).mono ?_; rintro e w3 ⟨rfl, hb3⟩
  have HX3 := hide ((unhide HX2).kept hb3)
  have HI3 := hide ((unhide HI2).kept hb3)
  have HB3 := hide ((unhide HB2).trans (hb3.mono (unhide HB2).size))
  clear p0 p1 hb3 HX2 HI2
  go_wp2_with fail
  refine (unhide HIM _).mono ?_; rintro e w4 ⟨r4, rfl, hi4, ho4, hb4⟩
  obtain ⟨a4, c4, rfl⟩ := ho4.slice
  go_wp2_with fail
  refine (unhide HSP _).mono ?_; rintro e w5 ⟨a5, n5, c5, rfl, ho5, hb5⟩
  have hi5 := (owned_ins (xs := LS) (by rw [unhide HLN]; exact ho5)).1
  go_wp2_with fail
  refine (loMap_any 1 1 _ _ LS LS _ (hi4.kept hb5) hi5).mono ?_; rintro e w6 ⟨rfl, hb6⟩
  have HX6 := hide ((((unhide HX3).kept hb4).kept hb5).kept hb6)
  have HI6 := hide ((((unhide HI3).kept hb4).kept hb5).kept hb6)
  have HB6 : Hid (Below w.heap.size w w6) := by
    have z1 := (unhide HB3).trans (hb4.mono (unhide HB3).size)
    have z2 := z1.trans (hb5.mono z1.size)
    exact z2.trans (hb6.mono z2.size)
  clear hb4 hb5 hb6 hi4 ho4 hi5 ho5 HX3 HI3
  go_wp2_with fail
  go_loopw [5] (fun i wr => ∃ j : Nat, j ≤ 34 ∧ i = .int .i64 ((j : Int) - 1) ∧ Below w.heap.size w wr ∧ Box wr w1.heap.size 25 #[.int .i64 V, .slice a m c] ∧ InsAt wr (.slice a m c) L) (fun i _ => 34 - (intOf i + 1).toNat)
  case atStart => exact ⟨0, by omega, rfl, unhide HB6, unhide HX6, unhide HI6⟩
  case round =>
    obtain ⟨j, hj, rfl, hb, hx, hi⟩ := hrel
    have HB := hide hb
    have HX := hide hx
    have HI := hide hi
    clear hb hx hi HX6 HI6
    by_cases hlt : j < 34
    case neg =>
      obtain rfl : j = 34 := by omega
      go_wp2_with fail
      go_ret
      exact ⟨rfl, unhide HB⟩
    generalize hK : (j : Int) - 1 = K at *
    have k1 : -1 ≤ K := by omega
    have k2 : K ≤ 32 := by omega
    have HK := hide hK
    clear hK
    generalize hH : houseOf V L K = H at *
    generalize hS : slotOf K = S at *
    generalize hH' : houseOf V L (K - 1) = H' at *
    generalize hS' : slotOf (K - 1) = S' at *
    have EH := hide hH
    have ES := hide hS
    have EH' := hide hH'
    have ES' := hide hS'
    have q1 : (H != H) = false := by simp
    have q2 : (S != S) = false := by simp
    have hm0 : ∀ hmm : mapOk V L = false, H = -1 := fun h => by rw [← hH]; exact house_no1 h
    have hk0 : ∀ hkk : keyB K = false, H = -1 := fun h => by rw [← hH]; exact house_no2 h
    have hm1 : mapOk V L = true → keyB K = true → 0 ≤ H := fun h h' => by rw [← hH]; exact house_ge h h'
    by_cases kA : K = -1
    · have sA : S = -1 := by rw [← hS, kA]; rfl
      have hA : H = -1 := hk0 (by rw [kA]; rfl)
      have kA1 : K < 0 := by omega
      clear hm0 hk0 hm1 hH hS hH' hS' kA
      subst sA hA
      cases hm : mapOk V L
      · clear hok
        obtain ⟨p0, p1⟩ := (unhide HX).two
        go_wp2_with fail
        refine (implMapHouse_any V _ L (K) _ (unhide HI)).mono ?_; rintro e y1 ⟨rfl, hc1⟩
        rw [unhide EH]
        have HX1 := hide ((unhide HX).kept hc1)
        have HI1 := hide ((unhide HI).kept hc1)
        have HB11 := hide ((unhide HB).trans (hc1.mono (unhide HB).size))
        clear p0 p1 hc1
        go_wp2_with fail
        refine (implSlot_any (K) _).mono ?_; rintro e z ⟨rfl, rfl⟩
        rw [unhide ES]
        obtain ⟨p0, p1⟩ := (unhide HX1).two
        go_wp2_with fail
        refine (specMapHouse_any V _ L (K) _ (unhide HI1)).mono ?_; rintro e y2 ⟨rfl, hc2⟩
        rw [unhide EH]
        have HX2 := hide ((unhide HX1).kept hc2)
        have HI2 := hide ((unhide HI1).kept hc2)
        have HB12 := hide ((unhide HB11).trans (hc2.mono (unhide HB11).size))
        clear p0 p1 hc2
        go_wp2_with fail
        refine (specMapSlot_any (K) _).mono ?_; rintro e z ⟨rfl, rfl⟩
        rw [unhide ES]
        go_wp2_with fail
        go_roundw
        case rel => exact ⟨j + 1, by omega, jstep (unhide HK), unhide HB12, unhide HX2, unhide HI2⟩
        case measure => have := unhide HK; simp [intOf]; omega
      · clear hok
        obtain ⟨p0, p1⟩ := (unhide HX).two
        go_wp2_with fail
        refine (implMapHouse_any V _ L (K) _ (unhide HI)).mono ?_; rintro e y1 ⟨rfl, hc1⟩
        rw [unhide EH]
        have HX1 := hide ((unhide HX).kept hc1)
        have HI1 := hide ((unhide HI).kept hc1)
        have HB11 := hide ((unhide HB).trans (hc1.mono (unhide HB).size))
        clear p0 p1 hc1
        go_wp2_with fail
        refine (implSlot_any (K) _).mono ?_; rintro e z ⟨rfl, rfl⟩
        rw [unhide ES]
        obtain ⟨p0, p1⟩ := (unhide HX1).two
        go_wp2_with fail
        refine (specMapHouse_any V _ L (K) _ (unhide HI1)).mono ?_; rintro e y2 ⟨rfl, hc2⟩
        rw [unhide EH]
        have HX2 := hide ((unhide HX1).kept hc2)
        have HI2 := hide ((unhide HI1).kept hc2)
        have HB12 := hide ((unhide HB11).trans (hc2.mono (unhide HB11).size))
        clear p0 p1 hc2
        go_wp2_with fail
        refine (specMapSlot_any (K) _).mono ?_; rintro e z ⟨rfl, rfl⟩
        rw [unhide ES]
        go_wp2_with fail
        go_roundw
        case rel => exact ⟨j + 1, by omega, jstep (unhide HK), unhide HB12, unhide HX2, unhide HI2⟩
        case measure => have := unhide HK; simp [intOf]; omega
    by_cases kB : K = 0
    · have sB : S = 0 := by rw [← hS, kB]; rfl
      have kB1 : 0 ≤ K := by omega
      have kB2 : ¬ 0 < K := by omega
      have kB3 : K < 32 := by omega
      cases hm : mapOk V L
      · have hA : H = -1 := hm0 hm
        clear hm0 hk0 hm1 hH hS hH' hS' hok kB kA
        subst sB hA
        obtain ⟨p0, p1⟩ := (unhide HX).two
        go_wp2_with fail
        refine (implMapHouse_any V _ L (K) _ (unhide HI)).mono ?_; rintro e y1 ⟨rfl, hc1⟩
        rw [unhide EH]
        have HX1 := hide ((unhide HX).kept hc1)
        have HI1 := hide ((unhide HI).kept hc1)
        have HB11 := hide ((unhide HB).trans (hc1.mono (unhide HB).size))
        clear p0 p1 hc1
        go_wp2_with fail
        refine (implSlot_any (K) _).mono ?_; rintro e z ⟨rfl, rfl⟩
        rw [unhide ES]
        obtain ⟨p0, p1⟩ := (unhide HX1).two
        go_wp2_with fail
        refine (specMapHouse_any V _ L (K) _ (unhide HI1)).mono ?_; rintro e y2 ⟨rfl, hc2⟩
        rw [unhide EH]
        have HX2 := hide ((unhide HX1).kept hc2)
        have HI2 := hide ((unhide HI1).kept hc2)
        have HB12 := hide ((unhide HB11).trans (hc2.mono (unhide HB11).size))
        clear p0 p1 hc2
        go_wp2_with fail
        refine (specMapSlot_any (K) _).mono ?_; rintro e z ⟨rfl, rfl⟩
        rw [unhide ES]
        go_wp2_with fail
        go_roundw
        case rel => exact ⟨j + 1, by omega, jstep (unhide HK), unhide HB12, unhide HX2, unhide HI2⟩
        case measure => have := unhide HK; simp [intOf]; omega
      · have hA : 0 ≤ H := hm1 hm (by rw [kB]; rfl)
        clear hm0 hk0 hm1 hH hS hH' hS' hok kB kA
        subst sB
        obtain ⟨p0, p1⟩ := (unhide HX).two
        go_wp2_with fail
        refine (implMapHouse_any V _ L (K) _ (unhide HI)).mono ?_; rintro e y1 ⟨rfl, hc1⟩
        rw [unhide EH]
        have HX1 := hide ((unhide HX).kept hc1)
        have HI1 := hide ((unhide HI).kept hc1)
        have HB11 := hide ((unhide HB).trans (hc1.mono (unhide HB).size))
        clear p0 p1 hc1
        go_wp2_with fail
        refine (implSlot_any (K) _).mono ?_; rintro e z ⟨rfl, rfl⟩
        rw [unhide ES]
        obtain ⟨p0, p1⟩ := (unhide HX1).two
        go_wp2_with fail
        refine (specMapHouse_any V _ L (K) _ (unhide HI1)).mono ?_; rintro e y2 ⟨rfl, hc2⟩
        rw [unhide EH]
        have HX2 := hide ((unhide HX1).kept hc2)
        have HI2 := hide ((unhide HI1).kept hc2)
        have HB12 := hide ((unhide HB11).trans (hc2.mono (unhide HB11).size))
        clear p0 p1 hc2
        go_wp2_with fail
        refine (specMapSlot_any (K) _).mono ?_; rintro e z ⟨rfl, rfl⟩
        rw [unhide ES]
        go_wp2_with fail
        go_roundw
        case rel => exact ⟨j + 1, by omega, jstep (unhide HK), unhide HB12, unhide HX2, unhide HI2⟩
        case measure => have := unhide HK; simp [intOf]; omega
    by_cases kC : K = 32
    · have sC : S = -1 := by rw [← hS, kC]; rfl
      have sC' : S' = 7 := by rw [← hS', kC]; rfl
      have hA : H = -1 := hk0 (by rw [kC]; rfl)
      have kC1 : ¬ K < 32 := by omega
      have kC2 : 0 < K := by omega
      clear hm0 hk0 hm1 hH hS hH' hS' kA kB kC
      subst sC sC' hA
      cases hm : mapOk V L
      · clear hok
        obtain ⟨p0, p1⟩ := (unhide HX).two
        go_wp2_with fail
        refine (implMapHouse_any V _ L (K) _ (unhide HI)).mono ?_; rintro e y1 ⟨rfl, hc1⟩
        rw [unhide EH]
        have HX1 := hide ((unhide HX).kept hc1)
        have HI1 := hide ((unhide HI).kept hc1)
        have HB11 := hide ((unhide HB).trans (hc1.mono (unhide HB).size))
        clear p0 p1 hc1
        go_wp2_with fail
        refine (implSlot_any (K) _).mono ?_; rintro e z ⟨rfl, rfl⟩
        rw [unhide ES]
        obtain ⟨p0, p1⟩ := (unhide HX1).two
        go_wp2_with fail
        refine (specMapHouse_any V _ L (K) _ (unhide HI1)).mono ?_; rintro e y2 ⟨rfl, hc2⟩
        rw [unhide EH]
        have HX2 := hide ((unhide HX1).kept hc2)
        have HI2 := hide ((unhide HI1).kept hc2)
        have HB12 := hide ((unhide HB11).trans (hc2.mono (unhide HB11).size))
        clear p0 p1 hc2
        go_wp2_with fail
        refine (specMapSlot_any (K) _).mono ?_; rintro e z ⟨rfl, rfl⟩
        rw [unhide ES]
        go_wp2_with fail
        refine (implSlot_any (K - 1) _).mono ?_; rintro e z ⟨rfl, rfl⟩
        rw [unhide ES']
        go_wp2_with fail
        go_roundw
        case rel => exact ⟨j + 1, by omega, jstep (unhide HK), unhide HB12, unhide HX2, unhide HI2⟩
        case measure => have := unhide HK; simp [intOf]; omega
      · clear hok
        obtain ⟨p0, p1⟩ := (unhide HX).two
        go_wp2_with fail
        refine (implMapHouse_any V _ L (K) _ (unhide HI)).mono ?_; rintro e y1 ⟨rfl, hc1⟩
        rw [unhide EH]
        have HX1 := hide ((unhide HX).kept hc1)
        have HI1 := hide ((unhide HI).kept hc1)
        have HB11 := hide ((unhide HB).trans (hc1.mono (unhide HB).size))
        clear p0 p1 hc1
        go_wp2_with fail
        refine (implSlot_any (K) _).mono ?_; rintro e z ⟨rfl, rfl⟩
        rw [unhide ES]
        obtain ⟨p0, p1⟩ := (unhide HX1).two
        go_wp2_with fail
        refine (specMapHouse_any V _ L (K) _ (unhide HI1)).mono ?_; rintro e y2 ⟨rfl, hc2⟩
        rw [unhide EH]
        have HX2 := hide ((unhide HX1).kept hc2)
        have HI2 := hide ((unhide HI1).kept hc2)
        have HB12 := hide ((unhide HB11).trans (hc2.mono (unhide HB11).size))
        clear p0 p1 hc2
        go_wp2_with fail
        refine (specMapSlot_any (K) _).mono ?_; rintro e z ⟨rfl, rfl⟩
        rw [unhide ES]
        go_wp2_with fail
        refine (implSlot_any (K - 1) _).mono ?_; rintro e z ⟨rfl, rfl⟩
        rw [unhide ES']
        go_wp2_with fail
        go_roundw
        case rel => exact ⟨j + 1, by omega, jstep (unhide HK), unhide HB12, unhide HX2, unhide HI2⟩
        case measure => have := unhide HK; simp [intOf]; omega
    have k3 : 0 < K := by omega
    have k4 : K < 32 := by omega
    obtain ⟨kk, sk⟩ := slot_key (k := K) (by omega) (by omega)
    obtain ⟨kk', sk'⟩ := slot_key (k := K - 1) (by omega) (by omega)
    have sge : 0 ≤ S := by rw [← hS, sk]; omega
    have smo : ¬ S < S' := by rw [← hS, ← hS', sk, sk']; omega
    by_cases hq : S = S'
    · have hqb : (S == S') = true := by simpa using hq
      have hHe : H = H' := by rw [← hH, ← hH']; exact house_slot kk kk' (by rw [hS, hS']; exact hq)
      have q3 : (H != H') = false := by simpa using hHe
      cases hm : mapOk V L
      · have hA : ¬ 0 ≤ H := by rw [hm0 hm]; omega
        clear hm0 hk0 hm1 hH hS hH' hS' hok hq hHe kk kk' sk sk' kA kB kC
        obtain ⟨p0, p1⟩ := (unhide HX).two
        go_wp2_with fail
        refine (implMapHouse_any V _ L (K) _ (unhide HI)).mono ?_; rintro e y1 ⟨rfl, hc1⟩
        rw [unhide EH]
        have HX1 := hide ((unhide HX).kept hc1)
        have HI1 := hide ((unhide HI).kept hc1)
        have HB11 := hide ((unhide HB).trans (hc1.mono (unhide HB).size))
        clear p0 p1 hc1
        go_wp2_with fail
        refine (implSlot_any (K) _).mono ?_; rintro e z ⟨rfl, rfl⟩
        rw [unhide ES]
        obtain ⟨p0, p1⟩ := (unhide HX1).two
        go_wp2_with fail
        refine (specMapHouse_any V _ L (K) _ (unhide HI1)).mono ?_; rintro e y2 ⟨rfl, hc2⟩
        rw [unhide EH]
        have HX2 := hide ((unhide HX1).kept hc2)
        have HI2 := hide ((unhide HI1).kept hc2)
        have HB12 := hide ((unhide HB11).trans (hc2.mono (unhide HB11).size))
        clear p0 p1 hc2
        go_wp2_with fail
        refine (specMapSlot_any (K) _).mono ?_; rintro e z ⟨rfl, rfl⟩
        rw [unhide ES]
        go_wp2_with fail
        refine (implSlot_any (K - 1) _).mono ?_; rintro e z ⟨rfl, rfl⟩
        rw [unhide ES']
        obtain ⟨p0, p1⟩ := (unhide HX2).two
        go_wp2_with fail
        refine (implMapHouse_any V _ L (K - 1) _ (unhide HI2)).mono ?_; rintro e y3 ⟨rfl, hc3⟩
        rw [unhide EH']
        have HX3 := hide ((unhide HX2).kept hc3)
        have HI3 := hide ((unhide HI2).kept hc3)
        have HB13 := hide ((unhide HB12).trans (hc3.mono (unhide HB12).size))
        clear p0 p1 hc3
        go_wp2_with fail
        refine (implSlot_any (K - 1) _).mono ?_; rintro e z ⟨rfl, rfl⟩
        rw [unhide ES']
        go_wp2_with fail
        go_roundw
        case rel => exact ⟨j + 1, by omega, jstep (unhide HK), unhide HB13, unhide HX3, unhide HI3⟩
        case measure => have := unhide HK; simp [intOf]; omega
      · have hA : 0 ≤ H := hm1 hm kk
        clear hm0 hk0 hm1 hH hS hH' hS' hok hq hHe kk kk' sk sk' kA kB kC
        obtain ⟨p0, p1⟩ := (unhide HX).two
        go_wp2_with fail
        refine (implMapHouse_any V _ L (K) _ (unhide HI)).mono ?_; rintro e y1 ⟨rfl, hc1⟩
        rw [unhide EH]
        have HX1 := hide ((unhide HX).kept hc1)
        have HI1 := hide ((unhide HI).kept hc1)
        have HB11 := hide ((unhide HB).trans (hc1.mono (unhide HB).size))
        clear p0 p1 hc1
        go_wp2_with fail
        refine (implSlot_any (K) _).mono ?_; rintro e z ⟨rfl, rfl⟩
        rw [unhide ES]
        obtain ⟨p0, p1⟩ := (unhide HX1).two
        go_wp2_with fail
        refine (specMapHouse_any V _ L (K) _ (unhide HI1)).mono ?_; rintro e y2 ⟨rfl, hc2⟩
        rw [unhide EH]
        have HX2 := hide ((unhide HX1).kept hc2)
        have HI2 := hide ((unhide HI1).kept hc2)
        have HB12 := hide ((unhide HB11).trans (hc2.mono (unhide HB11).size))
        clear p0 p1 hc2
        go_wp2_with fail
        refine (specMapSlot_any (K) _).mono ?_; rintro e z ⟨rfl, rfl⟩
        rw [unhide ES]
        go_wp2_with fail
        refine (implSlot_any (K - 1) _).mono ?_; rintro e z ⟨rfl, rfl⟩
        rw [unhide ES']
        obtain ⟨p0, p1⟩ := (unhide HX2).two
        go_wp2_with fail
        refine (implMapHouse_any V _ L (K - 1) _ (unhide HI2)).mono ?_; rintro e y3 ⟨rfl, hc3⟩
        rw [unhide EH']
        have HX3 := hide ((unhide HX2).kept hc3)
        have HI3 := hide ((unhide HI2).kept hc3)
        have HB13 := hide ((unhide HB12).trans (hc3.mono (unhide HB12).size))
        clear p0 p1 hc3
        go_wp2_with fail
        refine (implSlot_any (K - 1) _).mono ?_; rintro e z ⟨rfl, rfl⟩
        rw [unhide ES']
        go_wp2_with fail
        go_roundw
        case rel => exact ⟨j + 1, by omega, jstep (unhide HK), unhide HB13, unhide HX3, unhide HI3⟩
        case measure => have := unhide HK; simp [intOf]; omega
    · have hqb : (S == S') = false := by simpa using hq
      cases hm : mapOk V L
      · have hA : ¬ 0 ≤ H := by rw [hm0 hm]; omega
        clear hm0 hk0 hm1 hH hS hH' hS' hok hq kk kk' sk sk' kA kB kC
        obtain ⟨p0, p1⟩ := (unhide HX).two
        go_wp2_with fail
        refine (implMapHouse_any V _ L (K) _ (unhide HI)).mono ?_; rintro e y1 ⟨rfl, hc1⟩
        rw [unhide EH]
        have HX1 := hide ((unhide HX).kept hc1)
        have HI1 := hide ((unhide HI).kept hc1)
        have HB11 := hide ((unhide HB).trans (hc1.mono (unhide HB).size))
        clear p0 p1 hc1
        go_wp2_with fail
        refine (implSlot_any (K) _).mono ?_; rintro e z ⟨rfl, rfl⟩
        rw [unhide ES]
        obtain ⟨p0, p1⟩ := (unhide HX1).two
        go_wp2_with fail
        refine (specMapHouse_any V _ L (K) _ (unhide HI1)).mono ?_; rintro e y2 ⟨rfl, hc2⟩
        rw [unhide EH]
        have HX2 := hide ((unhide HX1).kept hc2)
        have HI2 := hide ((unhide HI1).kept hc2)
        have HB12 := hide ((unhide HB11).trans (hc2.mono (unhide HB11).size))
        clear p0 p1 hc2
        go_wp2_with fail
        refine (specMapSlot_any (K) _).mono ?_; rintro e z ⟨rfl, rfl⟩
        rw [unhide ES]
        go_wp2_with fail
        refine (implSlot_any (K - 1) _).mono ?_; rintro e z ⟨rfl, rfl⟩
        rw [unhide ES']
        go_wp2_with fail
        refine (implSlot_any (K - 1) _).mono ?_; rintro e z ⟨rfl, rfl⟩
        rw [unhide ES']
        go_wp2_with fail
        go_roundw
        case rel => exact ⟨j + 1, by omega, jstep (unhide HK), unhide HB12, unhide HX2, unhide HI2⟩
        case measure => have := unhide HK; simp [intOf]; omega
      · have hA : 0 ≤ H := hm1 hm kk
        clear hm0 hk0 hm1 hH hS hH' hS' hok hq kk kk' sk sk' kA kB kC
        obtain ⟨p0, p1⟩ := (unhide HX).two
        go_wp2_with fail
        refine (implMapHouse_any V _ L (K) _ (unhide HI)).mono ?_; rintro e y1 ⟨rfl, hc1⟩
        rw [unhide EH]
        have HX1 := hide ((unhide HX).kept hc1)
        have HI1 := hide ((unhide HI).kept hc1)
        have HB11 := hide ((unhide HB).trans (hc1.mono (unhide HB).size))
        clear p0 p1 hc1
        go_wp2_with fail
        refine (implSlot_any (K) _).mono ?_; rintro e z ⟨rfl, rfl⟩
        rw [unhide ES]
        obtain ⟨p0, p1⟩ := (unhide HX1).two
        go_wp2_with fail
        refine (specMapHouse_any V _ L (K) _ (unhide HI1)).mono ?_; rintro e y2 ⟨rfl, hc2⟩
        rw [unhide EH]
        have HX2 := hide ((unhide HX1).kept hc2)
        have HI2 := hide ((unhide HI1).kept hc2)
        have HB12 := hide ((unhide HB11).trans (hc2.mono (unhide HB11).size))
        clear p0 p1 hc2
        go_wp2_with fail
        refine (specMapSlot_any (K) _).mono ?_; rintro e z ⟨rfl, rfl⟩
        rw [unhide ES]
        go_wp2_with fail
        refine (implSlot_any (K - 1) _).mono ?_; rintro e z ⟨rfl, rfl⟩
        rw [unhide ES']
        go_wp2_with fail
        refine (implSlot_any (K - 1) _).mono ?_; rintro e z ⟨rfl, rfl⟩
        rw [unhide ES']
        go_wp2_with fail
        go_roundw
        case rel => exact ⟨j + 1, by omega, jstep (unhide HK), unhide HB12, unhide HX2, unhide HI2⟩
        case measure => have := unhide HK; simp [intOf]; omega

end Go.Proofs.Ytililbmaelaofaa
