/- The law FnLockFree answers true at every code. -/
import Derived.Test.YtoojnhodjkpecaaLwK
import Derived.Test.YtoojnhodjkpecaaDrL6
namespace Go.Proofs.Ytoojnhodjkpecaa
open Go.RowKit

set_option maxRecDepth 100000 in
set_option maxHeartbeats 1000000 in
theorem lawLockFreeD_any (v : Value) (n : Nat) (w : World) (hv : BytesAt w v n) :
    Calls Try.prog 5 #[v] w fun e w' => e = .returned (.bool true) ∧ Below w.heap.size w w' := by
  have HV := hide hv
  obtain ⟨a, cap, rfl, h1, h2, h3⟩ := hv
  unfold maxLen at h2
  clear h3
  by_cases hn : 1048576 < (n : Int)
  · go_enter Try.func5, Try.ntmps5
    go_wp2_with fail
    go_ret
    exact ⟨rfl, Below.refl _ _⟩
  go_enter Try.func5, Try.ntmps5
  go_wp2_with fail
  refine (drawLockFree_any _ n w (unhide HV)).mono ?_; rintro e w1 ⟨l, la, lb, s, t, rfl, hk1, hln, hlm, b1⟩
  clear HV h1 h2
  obtain ⟨a0, c0, rfl, -⟩ := hk1.held.shape
  obtain ⟨a1, c1, rfl, -⟩ := hk1.waits.shape
  obtain ⟨slot, H, W⟩ := l
  simp only [lkV] at *
  have HK := hide hk1
  have HB := hide b1
  clear hk1 b1
  have HCS := hide (fun ww hk => freeS_law (⟨slot, H, W⟩ : Lk) (.slice a0 H.length c0) (.slice a1 W.length c1) s t ww hk hln hlm)
  have HCI := hide (fun ww hk => freeI_law (⟨slot, H, W⟩ : Lk) (.slice a0 H.length c0) (.slice a1 W.length c1) s t ww hk hln hlm)
  have HOS := hide (fun ww hk => lockOkS_law (⟨slot, H, W⟩ : Lk) (.slice a0 H.length c0) (.slice a1 W.length c1) ww hk hln hlm)
  have hle := free_40 (⟨slot, H, W⟩ : Lk) s t
  have HOX : Hid (lockOkB (⟨slot, H, W⟩ : Lk) = true → ∀ ww a b, LkAt ww (freeL (⟨slot, H, W⟩ : Lk) s t) a b → Calls Try.prog 21 #[lkV (freeL (⟨slot, H, W⟩ : Lk) s t) a b] ww fun e w' => e = .returned (.bool true) ∧ Below ww.heap.size ww w') := fun h ww a b hk => by
    have := lockOkI_law (freeL (⟨slot, H, W⟩ : Lk) s t) a b ww hk (by omega) (by omega)
    rwa [(free_ok s t h).ok] at this
  have HCX : Hid (lockOkB (⟨slot, H, W⟩ : Lk) = true → ∀ ww a b, LkAt ww (freeL (⟨slot, H, W⟩ : Lk) s t) a b → Calls Try.prog 24 #[lkV (freeL (⟨slot, H, W⟩ : Lk) s t) a b, .int .i64 s, .int .i64 t] ww fun e w' => ∃ a0 c0 a1 c1 r c, e = .returned (.tuple #[lkV (freeL (⟨slot, H, W⟩ : Lk) s t) (.slice a0 (freeL (⟨slot, H, W⟩ : Lk) s t).held.length c0) (.slice a1 (freeL (⟨slot, H, W⟩ : Lk) s t).waits.length c1), .slice r 0 c]) ∧ LkAt w' (freeL (⟨slot, H, W⟩ : Lk) s t) (.slice a0 (freeL (⟨slot, H, W⟩ : Lk) s t).held.length c0) (.slice a1 (freeL (⟨slot, H, W⟩ : Lk) s t).waits.length c1) ∧ Below ww.heap.size ww w') := fun h ww a b hk => by
    have hf := freeI_law (freeL (⟨slot, H, W⟩ : Lk) s t) a b s t ww hk (by omega) (by omega)
    rw [(free_twice s t h).1, (free_twice s t h).2] at hf
    exact hf.mono fun _ _ ⟨p, q, x, y, r, c, h1, h2, _, h4⟩ => ⟨p, q, x, y, r, c, h1, h2, h4⟩
  have HM1 : Hid (lockOkB (⟨slot, H, W⟩ : Lk) = true → ∀ j, j < (freeL (⟨slot, H, W⟩ : Lk) s t).held.length → ((freeL (⟨slot, H, W⟩ : Lk) s t).held.getD j Hd.z).stamp = s → t < ((freeL (⟨slot, H, W⟩ : Lk) s t).held.getD j Hd.z).try_) := fun h j hj e1 => by
    have := keep_not (free_held h (getD_in hj))
    omega
  have HM2 : Hid (lockOkB (⟨slot, H, W⟩ : Lk) = true → ∀ j, j < (freeG (⟨slot, H, W⟩ : Lk) s t).length → W.any (fun y => eqHd y ((freeG (⟨slot, H, W⟩ : Lk) s t).getD j Hd.z)) = true) := fun h j hj => by
    exact List.any_eq_true.2 ⟨_, (free_got h).1 _ (getD_in hj), eqHd_self _⟩
  have HM3 : Hid (lockOkB (⟨slot, H, W⟩ : Lk) = true → ∀ j, 0 < j → j < (freeG (⟨slot, H, W⟩ : Lk) s t).length → ((freeG (⟨slot, H, W⟩ : Lk) s t).getD (j - 1) Hd.z).stamp < ((freeG (⟨slot, H, W⟩ : Lk) s t).getD j Hd.z).stamp) := fun h j h0 hj => by
    have := List.pairwise_iff_getElem.1 (free_got h).2 (j - 1) j (by omega) hj (by omega)
    simpa [List.getD, hj, show j - 1 < (freeG (⟨slot, H, W⟩ : Lk) s t).length from by omega] using this
  generalize (freeL (⟨slot, H, W⟩ : Lk) s t) = X at *
  generalize (freeG (⟨slot, H, W⟩ : Lk) s t) = T at *
  generalize lockOkB (⟨slot, H, W⟩ : Lk) = OK at *
  obtain ⟨xslot, XH, XW⟩ := X
  simp only [lkV] at *
  obtain ⟨hXH, hXW⟩ := hle
  have hcc : (OK != OK) = false := by simp
  go_wp2_with fail
  obtain ⟨wA, hwA⟩ : ∃ z, z = (w1.alloc (.cells #[.int .i64 slot, .slice a0 H.length c0, .slice a1 W.length c1] 25)) := ⟨_, rfl⟩
  have hbn : Below w1.heap.size w1 wA := by rw [hwA]; exact (Below.refl _ _).alloc (Nat.le_refl _) _
  have HL : Hid (Bx wA (w1.heap.size) 25 #[.int .i64 slot, .slice a0 H.length c0, .slice a1 W.length c1]) := by rw [hwA]; exact Bx.made _ _ _
  rw [← hwA]
  clear hwA
  replace HK := hide ((unhide HK).kept hbn)
  replace HB := hide ((unhide HB).trans (hbn.mono (unhide HB).size))
  clear hbn
  refine (unhide HCS _ (unhide HK)).mono ?_; rintro e w2 ⟨sa, sb, sc, sd, sr, st, rfl, hx2, ht2, h2⟩
  replace HK := hide ((unhide HK).kept h2)
  replace HL := hide ((unhide HL).kept h2)
  replace HB := hide ((unhide HB).trans (h2.mono (unhide HB).size))
  clear h2
  have HSX := hide hx2
  have HST := hide ht2
  clear hx2 ht2 HCS
  obtain ⟨hl0, hl1, hl2⟩ := (unhide HL).three
  have hlt := (unhide HL).lt
  go_wp2_with fail
  clear hl0 hl1 hl2 hlt
  obtain ⟨wB, hwB⟩ : ∃ z, z = (w2.alloc (.cells #[.int .i64 xslot, .slice sa XH.length sb, .slice sc XW.length sd] 25)) := ⟨_, rfl⟩
  have hbn : Below w2.heap.size w2 wB := by rw [hwB]; exact (Below.refl _ _).alloc (Nat.le_refl _) _
  have HS : Hid (Bx wB (w2.heap.size) 25 #[.int .i64 xslot, .slice sa XH.length sb, .slice sc XW.length sd]) := by rw [hwB]; exact Bx.made _ _ _
  rw [← hwB]
  clear hwB
  replace HK := hide ((unhide HK).kept hbn)
  replace HL := hide ((unhide HL).kept hbn)
  replace HSX := hide ((unhide HSX).kept hbn)
  replace HST := hide ((unhide HST).kept hbn)
  replace HB := hide ((unhide HB).trans (hbn.mono (unhide HB).size))
  clear hbn
  refine (unhide HOS _ (unhide HK)).mono ?_; rintro e w3 ⟨rfl, h3⟩
  replace HK := hide ((unhide HK).kept h3)
  replace HL := hide ((unhide HL).kept h3)
  replace HSX := hide ((unhide HSX).kept h3)
  replace HST := hide ((unhide HST).kept h3)
  replace HS := hide ((unhide HS).kept h3)
  replace HB := hide ((unhide HB).trans (h3.mono (unhide HB).size))
  clear h3
  clear HOS
  obtain ⟨hl0, hl1, hl2⟩ := (unhide HL).three
  have hlt := (unhide HL).lt
  go_wp2_with fail
  clear hl0 hl1 hl2 hlt
  refine (unhide HCI _ (unhide HK)).mono ?_; rintro e w4 ⟨ta, tb, tc, td, tr, tt, rfl, hx4, ht4, h4⟩
  replace HK := hide ((unhide HK).kept h4)
  replace HL := hide ((unhide HL).kept h4)
  replace HSX := hide ((unhide HSX).kept h4)
  replace HST := hide ((unhide HST).kept h4)
  replace HS := hide ((unhide HS).kept h4)
  replace HB := hide ((unhide HB).trans (h4.mono (unhide HB).size))
  clear h4
  have HTX := hide hx4
  have HTT := hide ht4
  clear hx4 ht4 HCI
  obtain ⟨hs0, hs1, hs2⟩ := (unhide HS).three
  have hst := (unhide HS).lt
  go_wp2_with fail
  clear hs0 hs1 hs2 hst
  obtain ⟨wC, hwC⟩ : ∃ z, z = (w4.alloc (.cells #[.int .i64 xslot, .slice ta XH.length tb, .slice tc XW.length td] 25)) := ⟨_, rfl⟩
  have hbn : Below w4.heap.size w4 wC := by rw [hwC]; exact (Below.refl _ _).alloc (Nat.le_refl _) _
  have HT_ : Hid (Bx wC (w4.heap.size) 25 #[.int .i64 xslot, .slice ta XH.length tb, .slice tc XW.length td]) := by rw [hwC]; exact Bx.made _ _ _
  rw [← hwC]
  clear hwC
  replace HK := hide ((unhide HK).kept hbn)
  replace HL := hide ((unhide HL).kept hbn)
  replace HSX := hide ((unhide HSX).kept hbn)
  replace HST := hide ((unhide HST).kept hbn)
  replace HS := hide ((unhide HS).kept hbn)
  replace HTX := hide ((unhide HTX).kept hbn)
  replace HTT := hide ((unhide HTT).kept hbn)
  replace HB := hide ((unhide HB).trans (hbn.mono (unhide HB).size))
  clear hbn
  refine (loLock_same ⟨xslot, XH, XW⟩ _ _ _ _ _ (unhide HTX) (unhide HSX)).mono ?_; rintro e w5 ⟨rfl, h5⟩
  replace HK := hide ((unhide HK).kept h5)
  replace HL := hide ((unhide HL).kept h5)
  replace HSX := hide ((unhide HSX).kept h5)
  replace HST := hide ((unhide HST).kept h5)
  replace HS := hide ((unhide HS).kept h5)
  replace HTX := hide ((unhide HTX).kept h5)
  replace HTT := hide ((unhide HTT).kept h5)
  replace HT_ := hide ((unhide HT_).kept h5)
  replace HB := hide ((unhide HB).trans (h5.mono (unhide HB).size))
  clear h5
  go_wp2_with fail
  refine (loHolds_same _ _ T _ (unhide HTT) (unhide HST)).mono ?_; rintro e w6 ⟨rfl, h6⟩
  replace HK := hide ((unhide HK).kept h6)
  replace HL := hide ((unhide HL).kept h6)
  replace HSX := hide ((unhide HSX).kept h6)
  replace HST := hide ((unhide HST).kept h6)
  replace HS := hide ((unhide HS).kept h6)
  replace HTX := hide ((unhide HTX).kept h6)
  replace HTT := hide ((unhide HTT).kept h6)
  replace HT_ := hide ((unhide HT_).kept h6)
  replace HB := hide ((unhide HB).trans (h6.mono (unhide HB).size))
  clear h6
  cases OK
  ·
    obtain ⟨ht_0, ht_1, ht_2⟩ := (unhide HT_).three
    have ht_t := (unhide HT_).lt
    obtain ⟨hs0, hs1, hs2⟩ := (unhide HS).three
    have hst := (unhide HS).lt
    go_wp2_with fail
    clear ht_0 ht_1 ht_2 ht_t hs0 hs1 hs2 hst
    refine (loLock_same ⟨xslot, XH, XW⟩ _ _ _ _ _ (unhide HTX) (unhide HSX)).mono ?_; rintro e w8 ⟨rfl, h5⟩
    replace HK := hide ((unhide HK).kept h5)
    replace HL := hide ((unhide HL).kept h5)
    replace HSX := hide ((unhide HSX).kept h5)
    replace HST := hide ((unhide HST).kept h5)
    replace HS := hide ((unhide HS).kept h5)
    replace HTX := hide ((unhide HTX).kept h5)
    replace HTT := hide ((unhide HTT).kept h5)
    replace HT_ := hide ((unhide HT_).kept h5)
    replace HB := hide ((unhide HB).trans (h5.mono (unhide HB).size))
    clear h5
    go_wp2_with fail
    refine (loHolds_same _ _ T _ (unhide HTT) (unhide HST)).mono ?_; rintro e w9 ⟨rfl, h6⟩
    replace HK := hide ((unhide HK).kept h6)
    replace HL := hide ((unhide HL).kept h6)
    replace HSX := hide ((unhide HSX).kept h6)
    replace HST := hide ((unhide HST).kept h6)
    replace HS := hide ((unhide HS).kept h6)
    replace HTX := hide ((unhide HTX).kept h6)
    replace HTT := hide ((unhide HTT).kept h6)
    replace HT_ := hide ((unhide HT_).kept h6)
    replace HB := hide ((unhide HB).trans (h6.mono (unhide HB).size))
    clear h6
    go_wp2_with fail
    go_ret
    exact ⟨rfl, unhide HB⟩
  ·
    have HN1 := hide (unhide HM1 (by first | rfl | trivial))
    have HN2 := hide (unhide HM2 (by first | rfl | trivial))
    have HN3 := hide (unhide HM3 (by first | rfl | trivial))
    have HOY := hide (unhide HOX (by first | rfl | trivial))
    have HCY := hide (unhide HCX (by first | rfl | trivial))
    clear HM1 HM2 HM3 HOX HCX HSX HST HS
    go_wp2_with fail
    obtain ⟨-, -, -, hTl⟩ := (unhide HTT).shape
    unfold maxLen at hTl
    generalize hN : T.length = N at *
    have HN := hide hN
    clear hN
    generalize hM : XH.length = M at *
    have HM := hide hM
    clear hM
    generalize hQ : W.length = Q at *
    have HQ := hide hQ
    clear hQ
    go_loopw [11] (fun i wr => ∃ k : Nat, k ≤ M ∧ i = .int .i64 k ∧ Below w6.heap.size w6 wr) (fun i _ => M - (intOf i).toNat)
    case atStart => exact ⟨0, Nat.zero_le _, rfl, Below.refl _ _⟩
    case round =>
      obtain ⟨k, hk, rfl, hb⟩ := hrel
      obtain ⟨t0, t1, t2⟩ := ((unhide HT_).kept hb).three
      have HBR := hide hb
      clear hb
      by_cases hlt : k < M
      ·
        obtain ⟨bx, ox, rfl⟩ := ((unhide HTX).held).some_of (by rw [unhide HM]; omega)
        obtain ⟨f0, f1, f2, f3⟩ := hd_cells (((unhide HTX).held).kept (unhide HBR)) (i := k) (by rw [unhide HM]; exact hlt)
        have hgt := unhide HN1 k hlt
        generalize XH.getD k Hd.z = y at *
        have ia : (k : Int) < (M : Int) := by omega
        have ib : (0 : Int) ≤ (k : Int) := by omega
        by_cases e1 : y.stamp = s
        · have hdc := hgt e1
          have b1 : (y.stamp == s) = true := by simpa using e1
          clear e1 hgt
          go_wp2_with fail
          go_roundw
          case rel => exact ⟨k + 1, hlt, by go_num, unhide HBR⟩
          case measure => simp [intOf]; omega
        · have b1 : (y.stamp == s) = false := by simpa using e1
          clear e1 hgt
          go_wp2_with fail
          go_roundw
          case rel => exact ⟨k + 1, hlt, by go_num, unhide HBR⟩
          case measure => simp [intOf]; omega
      ·
        go_wp2_with fail
        clear t0 t1 t2
        rename World => wo
        go_loopw [12] (fun i wr => ∃ p : Nat, p ≤ N ∧ i = .int .i64 p ∧ Below w6.heap.size w6 wr) (fun i _ => N - (intOf i).toNat)
        case atStart => exact ⟨0, Nat.zero_le _, rfl, unhide HBR⟩
        case round =>
          obtain ⟨p, hp, rfl, hb⟩ := hrel
          have HB1 := hide hb
          clear hb
          by_cases hlt : p < N
          ·
            obtain ⟨bt, ot, rfl⟩ := (unhide HTT).some_of (by rw [unhide HN]; omega)
            obtain ⟨d0, d1, d2, d3⟩ := hd_cells ((unhide HTT).kept (unhide HB1)) (i := p) (by rw [unhide HN]; exact hlt)
            have HDX := hide (fun ww (hb : Below w6.heap.size w6 ww) => hd_cells ((unhide HTT).kept hb) (i := p) (by rw [unhide HN]; exact hlt))
            have hany := unhide HN2 p hlt
            have HPX := hide (fun (h0 : 0 < p) ww (hb : Below w6.heap.size w6 ww) => hd_cells ((unhide HTT).kept hb) (i := p - 1) (by rw [unhide HN]; omega))
            have HP3 := hide (fun (h0 : 0 < p) => unhide HN3 p h0 hlt)
            generalize T.getD p Hd.z = x at *
            generalize T.getD (p - 1) Hd.z = z at *
            have HAN := hide hany
            clear hany d0 d1 d2 d3
            have ipa : (p : Int) < (N : Int) := by omega
            have ipb : (0 : Int) ≤ (p : Int) := by omega
            go_wp2_with fail
            rename World => wq
            go_loopw [13, 14] (fun f i wr => ∃ q : Nat, q ≤ Q ∧ i = .int .i64 q ∧ f = .bool ((W.take q).any (fun y => eqHd y x)) ∧ Below w6.heap.size w6 wr) (fun _ i _ => Q - (intOf i).toNat)
            case atStart => exact ⟨0, Nat.zero_le _, rfl, rfl, unhide HB1⟩
            case round =>
              obtain ⟨q, hq, rfl, rfl, hb2⟩ := hrel
              obtain ⟨t0, t1, t2⟩ := ((unhide HL).kept hb2).three
              have HB2 := hide hb2
              clear hb2
              by_cases hlt2 : q < Q
              ·
                obtain ⟨bw, ow, rfl⟩ := ((unhide HK).waits).some_of (by rw [unhide HQ]; omega)
                obtain ⟨f0, f1, f2, f3⟩ := hd_cells (((unhide HK).waits).kept (unhide HB2)) (i := q) (by rw [unhide HQ]; exact hlt2)
                obtain ⟨d0, d1, d2, d3⟩ := unhide HDX _ (unhide HB2)
                have hst : (W.take (q + 1)).any (fun y => eqHd y x) = ((W.take q).any (fun y => eqHd y x) || eqHd (W.getD q Hd.z) x) := by
                  have hql : q < W.length := by rw [unhide HQ]; exact hlt2
                  rw [List.take_succ_eq_append_getElem hql, List.any_append]
                  simp [List.getD, hql]
                have HST := hide hst
                clear hst
                have heq := eq_hd (W.getD q Hd.z) x
                generalize W.getD q Hd.z = y at *
                generalize (W.take q).any (fun y => eqHd y x) = A at *
                have iqa : (q : Int) < (Q : Int) := by omega
                have iqb : (0 : Int) ≤ (q : Int) := by omega
                have hwf : ∀ wx : World, True := fun _ => trivial
                clear hwf
                cases A
                · go_wp2_with fail
                  go_quiet (fail)
                  go_wp2_with fail
                  go_roundw
                  case rel => exact ⟨q + 1, hlt2, by go_num, by rw [unhide HST]; rfl, below_drewN (unhide HB2) _⟩
                  case measure => simp [intOf]; omega
                · clear heq
                  go_wp2_with fail
                  go_quiet (fail)
                  go_wp2_with fail
                  go_roundw
                  case rel => exact ⟨q + 1, hlt2, by go_num, by rw [unhide HST]; rfl, below_drewN (unhide HB2) _⟩
                  case measure => simp [intOf]; omega
              ·
                obtain rfl : q = Q := by omega
                have hfull : W.take q = W := List.take_of_length_le (by rw [unhide HQ]; omega)
                rw [hfull, unhide HAN]
                clear hfull
                by_cases hp0 : 0 < p
                ·
                  have hp0I : (0 : Int) < (p : Int) := by omega
                  have hsub : IntKind.i64.wrap ((p : Int) - 1) = ((p - 1 : Nat) : Int) := by rw [IntKind.wrap_i64]; omega
                  have hs3 := unhide HP3 hp0
                  obtain ⟨d0, d1, d2, d3⟩ := unhide HDX _ (unhide HB2)
                  obtain ⟨z0, z1, z2, z3⟩ := unhide HPX hp0 _ (unhide HB2)
                  have hdc : decide (z.stamp ≥ x.stamp) = false := by simp; omega
                  have hdc' : decide (x.stamp ≤ z.stamp) = false := by simp; omega
                  have i5 : ((p - 1 : Nat) : Int) < (N : Int) := by omega
                  have i6 : (0 : Int) ≤ ((p - 1 : Nat) : Int) := by omega
                  have hd0 : decide ((0 : Int) < (p : Int)) = true := by simpa using hp0
                  have hpm : (p : Int) - 1 = ((p - 1 : Nat) : Int) := by omega
                  have hdN : decide (0 < p) = true := by simpa using hp0
                  clear hs3
                  go_wp2_with fail
                  go_quiet (fail)
                  go_wp2_with fail
                  go_roundw
                  case rel => exact ⟨p + 1, hlt, by go_num, below_drewN (unhide HB2) _⟩
                  case measure => simp [intOf]; omega
                ·
                  obtain rfl : p = 0 := by omega
                  go_wp2_with fail
                  go_quiet (fail)
                  go_wp2_with fail
                  go_roundw
                  case rel => exact ⟨0 + 1, hlt, by go_num, below_drewN (unhide HB2) _⟩
                  case measure => simp [intOf]; omega
          ·
            obtain ⟨t0, t1, t2⟩ := ((unhide HT_).kept (unhide HB1)).three
            have ltt := ((unhide HT_).kept (unhide HB1)).lt
            rename World => wq
            go_wp2_with fail
            refine (unhide HCY _ _ _ ((unhide HTX).kept (unhide HB1))).mono ?_; rintro e w7 ⟨ya, yb, yc, yd, yr, yt, rfl, hx7, h7⟩
            have HBZ : Hid (Below w6.heap.size w6 w7) := (unhide HB1).trans (h7.mono (unhide HB1).size)
            have HYX := hide hx7
            clear hx7 h7 t0 t1 t2 ltt
            obtain ⟨t0, t1, t2⟩ := ((unhide HT_).kept (unhide HBZ)).three
            have ltt := ((unhide HT_).kept (unhide HBZ)).lt
            go_wp2_with fail
            clear t0 t1 t2 ltt
            obtain ⟨wE, hwE⟩ : ∃ z, z = w7.alloc (.cells #[.int .i64 xslot, .slice ya M yb, .slice yc XW.length yd] 25) := ⟨_, rfl⟩
            have HBE : Hid (Below w6.heap.size w6 wE) := by rw [hwE]; exact (unhide HBZ).alloc (unhide HBZ).size _
            have HYB : Hid (Bx wE w7.heap.size 25 #[.int .i64 xslot, .slice ya M yb, .slice yc XW.length yd]) := by rw [hwE]; exact Bx.made _ _ _
            have HYK : Hid (LkAt wE ⟨xslot, XH, XW⟩ (.slice ya M yb) (.slice yc XW.length yd)) := by rw [hwE]; exact (unhide HYX).kept ((Below.refl _ _).alloc (Nat.le_refl _) _)
            rw [← hwE]
            clear hwE
            refine (unhide HOY _ _ _ ((unhide HTX).kept (unhide HBE))).mono ?_; rintro e w8 ⟨rfl, h8⟩
            have HB8 : Hid (Below w6.heap.size w6 w8) := (unhide HBE).trans (h8.mono (unhide HBE).size)
            have HYK8 := hide ((unhide HYK).kept h8)
            have bx8 := (unhide HYB).kept h8
            obtain ⟨y0, y1, y2⟩ := bx8.three
            have lty := bx8.lt
            obtain ⟨t0, t1, t2⟩ := ((unhide HT_).kept (unhide HB8)).three
            have ltt := ((unhide HT_).kept (unhide HB8)).lt
            clear h8 bx8
            go_wp2_with fail
            clear t0 t1 t2 ltt y0 y1 y2 lty
            refine (loLock_same ⟨xslot, XH, XW⟩ _ _ _ _ _ (unhide HYK8) ((unhide HTX).kept (unhide HB8))).mono ?_; rintro e w9 ⟨rfl, h9⟩
            go_wp2_with fail
            go_ret
            have hbz := (unhide HB).trans ((unhide HB8).mono (unhide HB).size)
            exact ⟨rfl, hbz.trans (h9.mono hbz.size)⟩

end Go.Proofs.Ytoojnhodjkpecaa
