/- The law FnLockTry answers true at every code. -/
import Derived.Test.YtoojnhodjkpecaaLwK
import Derived.Deep.DeepCutAuto
import Derived.Test.YtoojnhodjkpecaaDrL5
namespace Go.Proofs.Ytoojnhodjkpecaa
open Go.RowKit

theorem filt_step {p : Hd → Bool} {l : List Hd} {k : Nat} (h : k < l.length) : (l.take (k + 1)).filter p = (l.take k).filter p ++ (if p (l.getD k Hd.z) = true then [l.getD k Hd.z] else []) := by
  rw [List.take_succ_eq_append_getElem h, List.filter_append]
  have e : l.getD k Hd.z = l[k] := by simp [List.getD, h]
  rw [e, List.filter_cons]
  split <;> simp

set_option maxRecDepth 100000 in
set_option maxHeartbeats 1000000 in
theorem lawLockTry_any (v : Value) (n : Nat) (w : World) (hv : BytesAt w v n) :
    Calls Try.prog 9 #[v] w fun e w' => e = .returned (.bool true) ∧ Below w.heap.size w w' := by
  have HV := hide hv
  obtain ⟨a, cap, rfl, h1, h2, h3⟩ := hv
  unfold maxLen at h2
  clear h3
  by_cases hn : 1048576 < (n : Int)
  · go_enter Try.func9, Try.ntmps9
    go_wp2_with fail
    go_ret
    exact ⟨rfl, Below.refl _ _⟩
  go_enter Try.func9, Try.ntmps9
  go_wp2_with fail
  refine (drawLockAsk_any _ n w (unhide HV)).mono ?_; rintro e w1 ⟨l, a, b, x, rfl, hk1, hln, hlm, hxt, b1⟩
  clear HV h1 h2
  obtain ⟨a0, c0, rfl, -⟩ := hk1.held.shape
  obtain ⟨a1, c1, rfl, -⟩ := hk1.waits.shape
  obtain ⟨slot, H, W⟩ := l
  obtain ⟨xs, xt, xh, xf⟩ := x
  simp only [lkV, hdV] at *
  have HK := hide hk1
  have HB := hide b1
  have HXT := hide hxt
  clear hk1 b1 hxt
  go_upto_region 4 with fail
  obtain ⟨BB, hBB⟩ : ∃ b : Bool, b = (decide (0 < H.length) && decide ((n : Int) % 2 = 0)) := ⟨_, rfl⟩
  have HBB := hide hBB
  clear hBB
  go_cut [32] (fun s wz => s = .bool BB ∧ wz = ((w1.alloc (.cells #[.int .i64 slot, .slice a0 H.length c0, .slice a1 W.length c1] 25)).alloc (.cells #[.int .i64 xs, .int .i64 xt, .bool xh, .bool xf] 27)))
  case first =>
    by_cases hH : 0 < H.length
    case neg =>
      have hHI : ¬ (0 : Int) < (H.length : Int) := by omega
      have hHd : decide (0 < H.length) = false := by simpa using hH
      go_wp2_with fail
      go_meet
      case rel => exact ⟨by rw [unhide HBB, hHd]; rfl, rfl⟩
    have hHI : (0 : Int) < (H.length : Int) := by omega
    have hHd : decide (0 < H.length) = true := by simpa using hH
    have hrem : IntKind.i64.wrap ((n : Int).tmod 2) = (n : Int) % 2 := by rw [Int.tmod_eq_emod_of_nonneg (by omega), IntKind.wrap_i64]; omega
    by_cases hN2 : (n : Int) % 2 = 0
    · have hnb : (((n : Int) % 2) == 0) = true := by simpa using hN2
      have hnt : ((n : Int).tmod 2) = 0 := by rw [Int.tmod_eq_emod_of_nonneg (by omega)]; exact hN2
      go_wp2_with fail
      go_meet
      case rel => exact ⟨by rw [unhide HBB, hHd, decide_eq_true hN2]; rfl, rfl⟩
    · have hnb : (((n : Int) % 2) == 0) = false := by simpa using hN2
      have hnt : ((n : Int).tmod 2) = 1 := by rw [Int.tmod_eq_emod_of_nonneg (by omega)]; omega
      go_wp2_with fail
      go_meet
      case rel => exact ⟨by rw [unhide HBB, hHd, decide_eq_false hN2]; rfl, rfl⟩
  case rest =>
    obtain ⟨rfl, rfl⟩ := hcut
    go_upto_if 32 with fail
    go_cut [] (fun wz => ∃ hs ht : Int, wz = (w1.alloc (.cells #[.int .i64 slot, .slice a0 H.length c0, .slice a1 W.length c1] 25)).alloc (.cells #[.int .i64 hs, .int .i64 ht, .bool xh, .bool xf] 27))
    case first =>
      cases BB
      · go_wp2_with fail
        go_meet
        case rel => exact ⟨_, _, rfl⟩
      · have hH : 0 < H.length := by
          have := unhide HBB
          simp only [Bool.true_eq, Bool.and_eq_true, decide_eq_true_eq] at this
          exact this.1
        have hHI : (0 : Int) < (H.length : Int) := by omega
        obtain ⟨bt, ot, rfl⟩ := ((unhide HK).held).some_of hH
        have bz : Below w1.heap.size w1 ((w1.alloc (.cells #[.int .i64 slot, .slice (some ⟨bt, ot, none⟩) H.length c0, .slice a1 W.length c1] 25)).alloc (.cells #[.int .i64 xs, .int .i64 xt, .bool xh, .bool xf] 27)) := ((Below.refl _ _).alloc (Nat.le_refl _) _).alloc (by simp) _
        obtain ⟨d0, d1, d2, d3⟩ := hd_cells (((unhide HK).held)) (i := 0) hH
        simp only [Nat.zero_mul, Nat.add_zero] at d0 d1 d2 d3
        have hlt0 := lt_of_cell d0
        generalize H.getD 0 Hd.z = y at *
        go_wp2_with fail
        go_meet
        case rel => exact ⟨_, _, rfl⟩
    case rest =>
      obtain ⟨hs, ht, rfl⟩ := hcut
      clear HBB
      go_wp2_with fail
      have HCS := hide (fun ww hk => askS_law (⟨slot, H, W⟩ : Lk) (.slice a0 H.length c0) (.slice a1 W.length c1) (⟨hs, ht, xh, xf⟩ : Hd) ww hk hln hlm)
      have HCI := hide (fun ww hk => askI_law (⟨slot, H, W⟩ : Lk) (.slice a0 H.length c0) (.slice a1 W.length c1) (⟨hs, ht, xh, xf⟩ : Hd) ww hk hln hlm)
      have HOS := hide (fun ww hk => lockOkS_law (⟨slot, H, W⟩ : Lk) (.slice a0 H.length c0) (.slice a1 W.length c1) ww hk hln hlm)
      have HOI := hide (fun ww hk => lockOkI_law (⟨slot, H, W⟩ : Lk) (.slice a0 H.length c0) (.slice a1 W.length c1) ww hk hln hlm)
      have hle := ask_40 (⟨slot, H, W⟩ : Lk) (⟨hs, ht, xh, xf⟩ : Hd)
      have hT : (askT (⟨slot, H, W⟩ : Lk) (⟨hs, ht, xh, xf⟩ : Hd)).length ≤ 1048576 := (ask_le (⟨slot, H, W⟩ : Lk) (⟨hs, ht, xh, xf⟩ : Hd)).2.2
      have HOX := hide (fun ww a b hk => lockOkI_law (askL (⟨slot, H, W⟩ : Lk) (⟨hs, ht, xh, xf⟩ : Hd)) a b ww hk (by omega) (by omega))
      have HMF : Hid (lockOkB (⟨slot, H, W⟩ : Lk) = true → ∀ j, j < H.length → (H.getD j Hd.z).stamp = hs → (H.getD j Hd.z).firm = true → (askL (⟨slot, H, W⟩ : Lk) (⟨hs, ht, xh, xf⟩ : Hd)) = (⟨slot, H, W⟩ : Lk)) := fun h j hj e1 e2 => ask_firm_same h (getD_in hj) e1 e2
      have HMG : Hid (lockOkB (⟨slot, H, W⟩ : Lk) = true → xf = false → 1 ≤ hs → hs ≤ 9999 → 1 ≤ ht → ht ≤ 9999 → H.length + W.length < 16 → (∀ j, j < H.length → (H.getD j Hd.z).stamp = hs → (H.getD j Hd.z).firm = false) → (((askL (⟨slot, H, W⟩ : Lk) (⟨hs, ht, xh, xf⟩ : Hd)).held ++ (askL (⟨slot, H, W⟩ : Lk) (⟨hs, ht, xh, xf⟩ : Hd)).waits).filter (fun y => y.stamp == hs)).length = 1 ∧ ∀ j, j < ((askL (⟨slot, H, W⟩ : Lk) (⟨hs, ht, xh, xf⟩ : Hd)).held ++ (askL (⟨slot, H, W⟩ : Lk) (⟨hs, ht, xh, xf⟩ : Hd)).waits).length → (((askL (⟨slot, H, W⟩ : Lk) (⟨hs, ht, xh, xf⟩ : Hd)).held ++ (askL (⟨slot, H, W⟩ : Lk) (⟨hs, ht, xh, xf⟩ : Hd)).waits).getD j Hd.z).stamp = hs → ht ≤ (((askL (⟨slot, H, W⟩ : Lk) (⟨hs, ht, xh, xf⟩ : Hd)).held ++ (askL (⟨slot, H, W⟩ : Lk) (⟨hs, ht, xh, xf⟩ : Hd)).waits).getD j Hd.z).try_) := fun h0 h1 h2 h3 h4 h5 h6 h7 => by
        have hb : badB (⟨hs, ht, xh, xf⟩ : Hd) = false := by simp [badB, holdOkB, inB, h1, h2, h3, h4, h5]
        have hn : ∀ x ∈ H, x.stamp = hs → x.firm = false := fun y hy => by
          obtain ⟨j, hj, rfl⟩ := List.getElem_of_mem hy
          have := h7 j hj
          rwa [show H.getD j Hd.z = H[j] from by simp [List.getD, hj]] at this
        refine ⟨?_, fun j hj => ask_try_ge h0 hb h6 hn _ (getD_in hj)⟩
        rcases ask_try h0 hb h6 with h | ⟨x, hx, e1, e2⟩
        · exact h
        · have := hn x hx e1; rw [e2] at this; cases this
      generalize askL (⟨slot, H, W⟩ : Lk) (⟨hs, ht, xh, xf⟩ : Hd) = X at *
      generalize askC (⟨slot, H, W⟩ : Lk) (⟨hs, ht, xh, xf⟩ : Hd) = C at *
      generalize askT (⟨slot, H, W⟩ : Lk) (⟨hs, ht, xh, xf⟩ : Hd) = T at *
      generalize lockOkB (⟨slot, H, W⟩ : Lk) = OK at *
      obtain ⟨xslot, XH, XW⟩ := X
      simp only [lkV, hdV] at *
      obtain ⟨hXH, hXW⟩ := hle
      have hcc : (C != C) = false := by simp
      have hoo : (OK != OK) = false := by simp
      have hce : (C == C) = true := by simp
      obtain ⟨wA, hwA⟩ : ∃ z, z = ((w1.alloc (.cells #[.int .i64 slot, .slice a0 H.length c0, .slice a1 W.length c1] 25)).alloc (.cells #[.int .i64 hs, .int .i64 ht, .bool xh, .bool xf] 27)) := ⟨_, rfl⟩
      have hbn : Below w1.heap.size w1 wA := by rw [hwA]; exact ((Below.refl _ _).alloc (Nat.le_refl _) _).alloc (by simp; try omega) _
      have HL : Hid (Bx wA (w1.heap.size) 25 #[.int .i64 slot, .slice a0 H.length c0, .slice a1 W.length c1]) := by rw [hwA]; exact (Bx.made _ _ _).allocK
      have HH : Hid (Bx wA (w1.heap.size + 1) 27 #[.int .i64 hs, .int .i64 ht, .bool xh, .bool xf]) := by rw [hwA]; exact ⟨heap_alloc2_new w1 (.cells #[.int .i64 slot, .slice a0 H.length c0, .slice a1 W.length c1] 25) (.cells #[.int .i64 hs, .int .i64 ht, .bool xh, .bool xf] 27)⟩
      rw [← hwA]
      clear hwA
      replace HK := hide ((unhide HK).kept hbn)
      replace HB := hide ((unhide HB).trans (hbn.mono (unhide HB).size))
      clear hbn
      refine (unhide HCS _ (unhide HK)).mono ?_; rintro e w2 ⟨sa, sb, sc, sd, sr, st, rfl, hx2, ht2, h2⟩
      replace HK := hide ((unhide HK).kept h2)
      replace HL := hide ((unhide HL).kept h2)
      replace HH := hide ((unhide HH).kept h2)
      replace HB := hide ((unhide HB).trans (h2.mono (unhide HB).size))
      clear h2
      have HSX := hide hx2
      have HST := hide ht2
      clear hx2 ht2 HCS
      obtain ⟨hl0, hl1, hl2⟩ := (unhide HL).three
      have hlt := (unhide HL).lt
      obtain ⟨hh0, hh1, hh2, hh3⟩ := (unhide HH).four
      have hht := (unhide HH).lt
      go_wp2_with fail
      clear hl0 hl1 hl2 hlt hh0 hh1 hh2 hh3 hht
      obtain ⟨wB, hwB⟩ : ∃ z, z = (w2.alloc (.cells #[.int .i64 xslot, .slice sa XH.length sb, .slice sc XW.length sd] 25)) := ⟨_, rfl⟩
      have hbn : Below w2.heap.size w2 wB := by rw [hwB]; exact (Below.refl _ _).alloc (Nat.le_refl _) _
      have HS : Hid (Bx wB (w2.heap.size) 25 #[.int .i64 xslot, .slice sa XH.length sb, .slice sc XW.length sd]) := by rw [hwB]; exact Bx.made _ _ _
      rw [← hwB]
      clear hwB
      replace HK := hide ((unhide HK).kept hbn)
      replace HL := hide ((unhide HL).kept hbn)
      replace HH := hide ((unhide HH).kept hbn)
      replace HSX := hide ((unhide HSX).kept hbn)
      replace HST := hide ((unhide HST).kept hbn)
      replace HB := hide ((unhide HB).trans (hbn.mono (unhide HB).size))
      clear hbn
      refine (unhide HCI _ (unhide HK)).mono ?_; rintro e w4 ⟨ta, tb, tc, td, tr, tt, rfl, hx4, ht4, h4⟩
      replace HK := hide ((unhide HK).kept h4)
      replace HL := hide ((unhide HL).kept h4)
      replace HH := hide ((unhide HH).kept h4)
      replace HSX := hide ((unhide HSX).kept h4)
      replace HST := hide ((unhide HST).kept h4)
      replace HS := hide ((unhide HS).kept h4)
      replace HB := hide ((unhide HB).trans (h4.mono (unhide HB).size))
      clear h4
      have HTX := hide hx4
      have HTT := hide ht4
      clear hx4 ht4 HCI
      obtain ⟨hl0, hl1, hl2⟩ := (unhide HL).three
      have hlt := (unhide HL).lt
      obtain ⟨hh0, hh1, hh2, hh3⟩ := (unhide HH).four
      have hht := (unhide HH).lt
      obtain ⟨hs0, hs1, hs2⟩ := (unhide HS).three
      have hst := (unhide HS).lt
      go_wp2_with fail
      clear hl0 hl1 hl2 hlt hh0 hh1 hh2 hh3 hht hs0 hs1 hs2 hst
      obtain ⟨wC, hwC⟩ : ∃ z, z = (w4.alloc (.cells #[.int .i64 xslot, .slice ta XH.length tb, .slice tc XW.length td] 25)) := ⟨_, rfl⟩
      have hbn : Below w4.heap.size w4 wC := by rw [hwC]; exact (Below.refl _ _).alloc (Nat.le_refl _) _
      have HT_ : Hid (Bx wC (w4.heap.size) 25 #[.int .i64 xslot, .slice ta XH.length tb, .slice tc XW.length td]) := by rw [hwC]; exact Bx.made _ _ _
      rw [← hwC]
      clear hwC
      replace HK := hide ((unhide HK).kept hbn)
      replace HL := hide ((unhide HL).kept hbn)
      replace HH := hide ((unhide HH).kept hbn)
      replace HSX := hide ((unhide HSX).kept hbn)
      replace HST := hide ((unhide HST).kept hbn)
      replace HS := hide ((unhide HS).kept hbn)
      replace HTX := hide ((unhide HTX).kept hbn)
      replace HTT := hide ((unhide HTT).kept hbn)
      replace HB := hide ((unhide HB).trans (hbn.mono (unhide HB).size))
      clear hbn
      refine (loLock_same ⟨xslot, XH, XW⟩ _ _ _ _ _ (unhide HTX) (unhide HSX)).mono ?_; rintro e w5 ⟨rfl, h5⟩
      replace HK := hide ((unhide HK).kept h5)
      replace HL := hide ((unhide HL).kept h5)
      replace HH := hide ((unhide HH).kept h5)
      replace HSX := hide ((unhide HSX).kept h5)
      replace HST := hide ((unhide HST).kept h5)
      replace HS := hide ((unhide HS).kept h5)
      replace HTX := hide ((unhide HTX).kept h5)
      replace HTT := hide ((unhide HTT).kept h5)
      replace HT_ := hide ((unhide HT_).kept h5)
      replace HB := hide ((unhide HB).trans (h5.mono (unhide HB).size))
      clear h5
      go_wp2_with fail
      refine (loHolds_same _ _ T _ (unhide HTT) (unhide HST)).mono ?_; rintro e w6 ⟨rfl, h6⟩
      replace HK := hide ((unhide HK).kept h6)
      replace HL := hide ((unhide HL).kept h6)
      replace HH := hide ((unhide HH).kept h6)
      replace HSX := hide ((unhide HSX).kept h6)
      replace HST := hide ((unhide HST).kept h6)
      replace HS := hide ((unhide HS).kept h6)
      replace HTX := hide ((unhide HTX).kept h6)
      replace HTT := hide ((unhide HTT).kept h6)
      replace HT_ := hide ((unhide HT_).kept h6)
      replace HB := hide ((unhide HB).trans (h6.mono (unhide HB).size))
      clear h6
      obtain ⟨hl0, hl1, hl2⟩ := (unhide HL).three
      have hlt := (unhide HL).lt
      go_wp2_with fail
      clear hl0 hl1 hl2 hlt
      refine (unhide HOS _ (unhide HK)).mono ?_; rintro e w7 ⟨rfl, h7⟩
      replace HK := hide ((unhide HK).kept h7)
      replace HL := hide ((unhide HL).kept h7)
      replace HH := hide ((unhide HH).kept h7)
      replace HSX := hide ((unhide HSX).kept h7)
      replace HST := hide ((unhide HST).kept h7)
      replace HS := hide ((unhide HS).kept h7)
      replace HTX := hide ((unhide HTX).kept h7)
      replace HTT := hide ((unhide HTT).kept h7)
      replace HT_ := hide ((unhide HT_).kept h7)
      replace HB := hide ((unhide HB).trans (h7.mono (unhide HB).size))
      clear h7
      clear HOS
      cases OK
      ·
        obtain ⟨ht_0, ht_1, ht_2⟩ := (unhide HT_).three
        have ht_t := (unhide HT_).lt
        obtain ⟨hs0, hs1, hs2⟩ := (unhide HS).three
        have hst := (unhide HS).lt
        go_wp2_with fail
        clear ht_0 ht_1 ht_2 ht_t hs0 hs1 hs2 hst
        refine (loLock_same ⟨xslot, XH, XW⟩ _ _ _ _ _ (unhide HTX) (unhide HSX)).mono ?_; rintro e w8 ⟨rfl, h5⟩
        replace HK := hide ((unhide HK).kept h5)
        replace HL := hide ((unhide HL).kept h5)
        replace HH := hide ((unhide HH).kept h5)
        replace HSX := hide ((unhide HSX).kept h5)
        replace HST := hide ((unhide HST).kept h5)
        replace HS := hide ((unhide HS).kept h5)
        replace HTX := hide ((unhide HTX).kept h5)
        replace HTT := hide ((unhide HTT).kept h5)
        replace HT_ := hide ((unhide HT_).kept h5)
        replace HB := hide ((unhide HB).trans (h5.mono (unhide HB).size))
        clear h5
        go_wp2_with fail
        refine (loHolds_same _ _ T _ (unhide HTT) (unhide HST)).mono ?_; rintro e w9 ⟨rfl, h6⟩
        replace HK := hide ((unhide HK).kept h6)
        replace HL := hide ((unhide HL).kept h6)
        replace HH := hide ((unhide HH).kept h6)
        replace HSX := hide ((unhide HSX).kept h6)
        replace HST := hide ((unhide HST).kept h6)
        replace HS := hide ((unhide HS).kept h6)
        replace HTX := hide ((unhide HTX).kept h6)
        replace HTT := hide ((unhide HTT).kept h6)
        replace HT_ := hide ((unhide HT_).kept h6)
        replace HB := hide ((unhide HB).trans (h6.mono (unhide HB).size))
        clear h6
        go_wp2_with fail
        go_ret
        exact ⟨rfl, unhide HB⟩
      ·
        cases xf
        case true =>
          obtain ⟨ht_0, ht_1, ht_2⟩ := (unhide HT_).three
          have ht_t := (unhide HT_).lt
          obtain ⟨hs0, hs1, hs2⟩ := (unhide HS).three
          have hst := (unhide HS).lt
          obtain ⟨hl0, hl1, hl2⟩ := (unhide HL).three
          have hlt := (unhide HL).lt
          obtain ⟨hh0, hh1, hh2, hh3⟩ := (unhide HH).four
          have hht := (unhide HH).lt
          go_wp2_with fail
          clear ht_0 ht_1 ht_2 ht_t hs0 hs1 hs2 hst hl0 hl1 hl2 hlt hh0 hh1 hh2 hh3 hht
          refine (loLock_same ⟨xslot, XH, XW⟩ _ _ _ _ _ (unhide HTX) (unhide HSX)).mono ?_; rintro e w8 ⟨rfl, h5⟩
          replace HK := hide ((unhide HK).kept h5)
          replace HL := hide ((unhide HL).kept h5)
          replace HH := hide ((unhide HH).kept h5)
          replace HSX := hide ((unhide HSX).kept h5)
          replace HST := hide ((unhide HST).kept h5)
          replace HS := hide ((unhide HS).kept h5)
          replace HTX := hide ((unhide HTX).kept h5)
          replace HTT := hide ((unhide HTT).kept h5)
          replace HT_ := hide ((unhide HT_).kept h5)
          replace HB := hide ((unhide HB).trans (h5.mono (unhide HB).size))
          clear h5
          go_wp2_with fail
          refine (loHolds_same _ _ T _ (unhide HTT) (unhide HST)).mono ?_; rintro e w9 ⟨rfl, h6⟩
          replace HK := hide ((unhide HK).kept h6)
          replace HL := hide ((unhide HL).kept h6)
          replace HH := hide ((unhide HH).kept h6)
          replace HSX := hide ((unhide HSX).kept h6)
          replace HST := hide ((unhide HST).kept h6)
          replace HS := hide ((unhide HS).kept h6)
          replace HTX := hide ((unhide HTX).kept h6)
          replace HTT := hide ((unhide HTT).kept h6)
          replace HT_ := hide ((unhide HT_).kept h6)
          replace HB := hide ((unhide HB).trans (h6.mono (unhide HB).size))
          clear h6
          go_wp2_with fail
          go_ret
          exact ⟨rfl, unhide HB⟩
        by_cases c188 : hs < 1
        case pos =>
          obtain ⟨ht_0, ht_1, ht_2⟩ := (unhide HT_).three
          have ht_t := (unhide HT_).lt
          obtain ⟨hs0, hs1, hs2⟩ := (unhide HS).three
          have hst := (unhide HS).lt
          obtain ⟨hl0, hl1, hl2⟩ := (unhide HL).three
          have hlt := (unhide HL).lt
          obtain ⟨hh0, hh1, hh2, hh3⟩ := (unhide HH).four
          have hht := (unhide HH).lt
          go_wp2_with fail
          clear ht_0 ht_1 ht_2 ht_t hs0 hs1 hs2 hst hl0 hl1 hl2 hlt hh0 hh1 hh2 hh3 hht
          refine (loLock_same ⟨xslot, XH, XW⟩ _ _ _ _ _ (unhide HTX) (unhide HSX)).mono ?_; rintro e w8 ⟨rfl, h5⟩
          replace HK := hide ((unhide HK).kept h5)
          replace HL := hide ((unhide HL).kept h5)
          replace HH := hide ((unhide HH).kept h5)
          replace HSX := hide ((unhide HSX).kept h5)
          replace HST := hide ((unhide HST).kept h5)
          replace HS := hide ((unhide HS).kept h5)
          replace HTX := hide ((unhide HTX).kept h5)
          replace HTT := hide ((unhide HTT).kept h5)
          replace HT_ := hide ((unhide HT_).kept h5)
          replace HB := hide ((unhide HB).trans (h5.mono (unhide HB).size))
          clear h5
          go_wp2_with fail
          refine (loHolds_same _ _ T _ (unhide HTT) (unhide HST)).mono ?_; rintro e w9 ⟨rfl, h6⟩
          replace HK := hide ((unhide HK).kept h6)
          replace HL := hide ((unhide HL).kept h6)
          replace HH := hide ((unhide HH).kept h6)
          replace HSX := hide ((unhide HSX).kept h6)
          replace HST := hide ((unhide HST).kept h6)
          replace HS := hide ((unhide HS).kept h6)
          replace HTX := hide ((unhide HTX).kept h6)
          replace HTT := hide ((unhide HTT).kept h6)
          replace HT_ := hide ((unhide HT_).kept h6)
          replace HB := hide ((unhide HB).trans (h6.mono (unhide HB).size))
          clear h6
          go_wp2_with fail
          go_ret
          exact ⟨rfl, unhide HB⟩
        by_cases c226 : 9999 < hs
        case pos =>
          obtain ⟨ht_0, ht_1, ht_2⟩ := (unhide HT_).three
          have ht_t := (unhide HT_).lt
          obtain ⟨hs0, hs1, hs2⟩ := (unhide HS).three
          have hst := (unhide HS).lt
          obtain ⟨hl0, hl1, hl2⟩ := (unhide HL).three
          have hlt := (unhide HL).lt
          obtain ⟨hh0, hh1, hh2, hh3⟩ := (unhide HH).four
          have hht := (unhide HH).lt
          go_wp2_with fail
          clear ht_0 ht_1 ht_2 ht_t hs0 hs1 hs2 hst hl0 hl1 hl2 hlt hh0 hh1 hh2 hh3 hht
          refine (loLock_same ⟨xslot, XH, XW⟩ _ _ _ _ _ (unhide HTX) (unhide HSX)).mono ?_; rintro e w8 ⟨rfl, h5⟩
          replace HK := hide ((unhide HK).kept h5)
          replace HL := hide ((unhide HL).kept h5)
          replace HH := hide ((unhide HH).kept h5)
          replace HSX := hide ((unhide HSX).kept h5)
          replace HST := hide ((unhide HST).kept h5)
          replace HS := hide ((unhide HS).kept h5)
          replace HTX := hide ((unhide HTX).kept h5)
          replace HTT := hide ((unhide HTT).kept h5)
          replace HT_ := hide ((unhide HT_).kept h5)
          replace HB := hide ((unhide HB).trans (h5.mono (unhide HB).size))
          clear h5
          go_wp2_with fail
          refine (loHolds_same _ _ T _ (unhide HTT) (unhide HST)).mono ?_; rintro e w9 ⟨rfl, h6⟩
          replace HK := hide ((unhide HK).kept h6)
          replace HL := hide ((unhide HL).kept h6)
          replace HH := hide ((unhide HH).kept h6)
          replace HSX := hide ((unhide HSX).kept h6)
          replace HST := hide ((unhide HST).kept h6)
          replace HS := hide ((unhide HS).kept h6)
          replace HTX := hide ((unhide HTX).kept h6)
          replace HTT := hide ((unhide HTT).kept h6)
          replace HT_ := hide ((unhide HT_).kept h6)
          replace HB := hide ((unhide HB).trans (h6.mono (unhide HB).size))
          clear h6
          go_wp2_with fail
          go_ret
          exact ⟨rfl, unhide HB⟩
        by_cases c264 : ht < 1
        case pos =>
          obtain ⟨ht_0, ht_1, ht_2⟩ := (unhide HT_).three
          have ht_t := (unhide HT_).lt
          obtain ⟨hs0, hs1, hs2⟩ := (unhide HS).three
          have hst := (unhide HS).lt
          obtain ⟨hl0, hl1, hl2⟩ := (unhide HL).three
          have hlt := (unhide HL).lt
          obtain ⟨hh0, hh1, hh2, hh3⟩ := (unhide HH).four
          have hht := (unhide HH).lt
          go_wp2_with fail
          clear ht_0 ht_1 ht_2 ht_t hs0 hs1 hs2 hst hl0 hl1 hl2 hlt hh0 hh1 hh2 hh3 hht
          refine (loLock_same ⟨xslot, XH, XW⟩ _ _ _ _ _ (unhide HTX) (unhide HSX)).mono ?_; rintro e w8 ⟨rfl, h5⟩
          replace HK := hide ((unhide HK).kept h5)
          replace HL := hide ((unhide HL).kept h5)
          replace HH := hide ((unhide HH).kept h5)
          replace HSX := hide ((unhide HSX).kept h5)
          replace HST := hide ((unhide HST).kept h5)
          replace HS := hide ((unhide HS).kept h5)
          replace HTX := hide ((unhide HTX).kept h5)
          replace HTT := hide ((unhide HTT).kept h5)
          replace HT_ := hide ((unhide HT_).kept h5)
          replace HB := hide ((unhide HB).trans (h5.mono (unhide HB).size))
          clear h5
          go_wp2_with fail
          refine (loHolds_same _ _ T _ (unhide HTT) (unhide HST)).mono ?_; rintro e w9 ⟨rfl, h6⟩
          replace HK := hide ((unhide HK).kept h6)
          replace HL := hide ((unhide HL).kept h6)
          replace HH := hide ((unhide HH).kept h6)
          replace HSX := hide ((unhide HSX).kept h6)
          replace HST := hide ((unhide HST).kept h6)
          replace HS := hide ((unhide HS).kept h6)
          replace HTX := hide ((unhide HTX).kept h6)
          replace HTT := hide ((unhide HTT).kept h6)
          replace HT_ := hide ((unhide HT_).kept h6)
          replace HB := hide ((unhide HB).trans (h6.mono (unhide HB).size))
          clear h6
          go_wp2_with fail
          go_ret
          exact ⟨rfl, unhide HB⟩
        by_cases c302 : 9999 < ht
        case pos =>
          obtain ⟨ht_0, ht_1, ht_2⟩ := (unhide HT_).three
          have ht_t := (unhide HT_).lt
          obtain ⟨hs0, hs1, hs2⟩ := (unhide HS).three
          have hst := (unhide HS).lt
          obtain ⟨hl0, hl1, hl2⟩ := (unhide HL).three
          have hlt := (unhide HL).lt
          obtain ⟨hh0, hh1, hh2, hh3⟩ := (unhide HH).four
          have hht := (unhide HH).lt
          go_wp2_with fail
          clear ht_0 ht_1 ht_2 ht_t hs0 hs1 hs2 hst hl0 hl1 hl2 hlt hh0 hh1 hh2 hh3 hht
          refine (loLock_same ⟨xslot, XH, XW⟩ _ _ _ _ _ (unhide HTX) (unhide HSX)).mono ?_; rintro e w8 ⟨rfl, h5⟩
          replace HK := hide ((unhide HK).kept h5)
          replace HL := hide ((unhide HL).kept h5)
          replace HH := hide ((unhide HH).kept h5)
          replace HSX := hide ((unhide HSX).kept h5)
          replace HST := hide ((unhide HST).kept h5)
          replace HS := hide ((unhide HS).kept h5)
          replace HTX := hide ((unhide HTX).kept h5)
          replace HTT := hide ((unhide HTT).kept h5)
          replace HT_ := hide ((unhide HT_).kept h5)
          replace HB := hide ((unhide HB).trans (h5.mono (unhide HB).size))
          clear h5
          go_wp2_with fail
          refine (loHolds_same _ _ T _ (unhide HTT) (unhide HST)).mono ?_; rintro e w9 ⟨rfl, h6⟩
          replace HK := hide ((unhide HK).kept h6)
          replace HL := hide ((unhide HL).kept h6)
          replace HH := hide ((unhide HH).kept h6)
          replace HSX := hide ((unhide HSX).kept h6)
          replace HST := hide ((unhide HST).kept h6)
          replace HS := hide ((unhide HS).kept h6)
          replace HTX := hide ((unhide HTX).kept h6)
          replace HTT := hide ((unhide HTT).kept h6)
          replace HT_ := hide ((unhide HT_).kept h6)
          replace HB := hide ((unhide HB).trans (h6.mono (unhide HB).size))
          clear h6
          go_wp2_with fail
          go_ret
          exact ⟨rfl, unhide HB⟩
        have HM2 := hide (unhide HMG (by first | rfl | trivial) (by first | rfl | trivial) (by omega) (by omega) (by omega) (by omega))
        have HM1 := hide (unhide HMF (by first | rfl | trivial))
        obtain ⟨hl0, hl1, hl2⟩ := (unhide HL).three
        have hlt := (unhide HL).lt
        obtain ⟨hh0, hh1, hh2, hh3⟩ := (unhide HH).four
        have hht := (unhide HH).lt
        go_wp2_with fail
        clear hl0 hl1 hl2 hlt hh0 hh1 hh2 hh3 hht
        clear HMG HMF HSX HST HS HTT HOI HOX
        go_loopw [11] (fun i wr => ∃ k : Nat, k ≤ H.length ∧ i = .int .i64 k ∧ Below w7.heap.size w7 wr ∧ ∀ j, j < k → (H.getD j Hd.z).stamp = hs → (H.getD j Hd.z).firm = false) (fun i _ => H.length - (intOf i).toNat)
        case atStart => exact ⟨0, Nat.zero_le _, rfl, Below.refl _ _, fun j hj => by omega⟩
        case round =>
          obtain ⟨k, hk, rfl, hb, hall⟩ := hrel
          have HALL := hide hall
          obtain ⟨t0, t1, t2⟩ := ((unhide HL).kept hb).three
          obtain ⟨r0, r1, r2, r3⟩ := ((unhide HH).kept hb).four
          have HBR := hide hb
          clear hb hall
          by_cases hlt : k < H.length
          ·
            obtain ⟨bt, ot, rfl⟩ := ((unhide HK).held).some_of (show 0 < H.length by omega)
            obtain ⟨d0, d1, d2, d3⟩ := hd_cells (((unhide HK).held).kept (unhide HBR)) (i := k) hlt
            generalize hx : H.getD k Hd.z = x at *
            have HX := hide hx
            clear hx
            have ia : (k : Int) < (H.length : Int) := by omega
            have ib : (0 : Int) ≤ (k : Int) := by omega
            by_cases hst : x.stamp = hs
            case neg =>
              have hsb : (x.stamp == hs) = false := by simpa using hst
              have HFX : Hid (x.stamp = hs → x.firm = false) := fun e => absurd e hst
              clear hst
              go_wp2_with fail
              go_quiet (fail)
              go_wp2_with fail
              go_roundw
              case rel =>
                refine ⟨k + 1, hlt, by go_num, below_drewN (unhide HBR) _, fun j hj => ?_⟩
                by_cases hjk : j = k
                · rw [hjk, unhide HX]; exact unhide HFX
                · exact unhide HALL j (by omega)
              case measure => simp [intOf]; omega
            have hsb : (x.stamp == hs) = true := by simpa using hst
            cases hfx : x.firm
            · have HFX : Hid (x.stamp = hs → x.firm = false) := fun _ => hfx
              rw [hfx] at d3
              clear hst hfx
              go_wp2_with fail
              go_quiet (fail)
              go_wp2_with fail
              go_roundw
              case rel =>
                refine ⟨k + 1, hlt, by go_num, below_drewN (unhide HBR) _, fun j hj => ?_⟩
                by_cases hjk : j = k
                · rw [hjk, unhide HX]; exact unhide HFX
                · exact unhide HALL j (by omega)
              case measure => simp [intOf]; omega
            · have hXL := unhide HM1 k hlt (by rw [unhide HX]; exact hst) (by rw [unhide HX]; exact hfx)
              rw [hfx] at d3
              simp only [Lk.mk.injEq] at hXL
              obtain ⟨rfl, rfl, rfl⟩ := hXL
              have bxt := (unhide HT_).kept (unhide HBR)
              have HBX := hide bxt
              clear hst hfx bxt
              go_wp2_with fail
              go_quiet (fail)
              clear t0 t1 t2 r0 r1 r2 r3 d0 d1 d2 d3
              have hbz := below_drewN (unhide HBR)
              have HBZ := hide hbz
              clear hbz
              rename World => wo
              obtain ⟨t0, t1, t2⟩ := ((unhide HL).kept (unhide HBZ nq)).three
              obtain ⟨y0, y1, y2⟩ := ((unhide HT_).kept (unhide HBZ nq)).three
              go_wp2_with fail
              refine (loLock_same ⟨_, _, _⟩ _ _ _ _ _ ((unhide HTX).kept (unhide HBZ nq)) ((unhide HK).kept (unhide HBZ nq))).mono ?_; rintro e w8 ⟨rfl, h8⟩
              go_wp2_with fail
              go_ret
              have hbf := (unhide HB).trans ((unhide HBZ nq).mono (unhide HB).size)
              exact ⟨rfl, hbf.trans (h8.mono hbf.size)⟩
          ·
            obtain rfl : k = H.length := by omega
            rename World => wo
            have hwr : IntKind.i64.wrap ((H.length : Int) + (W.length : Int)) = (H.length : Int) + (W.length : Int) := by rw [IntKind.wrap_i64]; omega
            by_cases c16 : (16 : Int) ≤ (H.length : Int) + (W.length : Int)
            case pos =>
              go_wp2_with fail
              go_ret
              exact ⟨rfl, (unhide HB).trans ((unhide HBR).mono (unhide HB).size)⟩
            obtain ⟨m1, m2⟩ := unhide HM2 (by omega) (unhide HALL)
            have HM3 := hide m1
            have HM4 := hide m2
            have HXB := hide ((unhide HT_).kept (unhide HBR))
            have HHB := hide ((unhide HH).kept (unhide HBR))
            have HXR := hide ((unhide HTX).kept (unhide HBR))
            clear m1 m2 HM2 HM1 HALL
            go_wp2_with fail
            clear t0 t1 t2 r0 r1 r2 r3
            obtain ⟨i0, hi, hz0, hz1, hz2⟩ := info_parts Try.infoHd
            refine wp_region_held_drew (S := fun w' => Bx w' w4.heap.size 25 #[.int .i64 xslot, .slice ta XH.length tb, .slice tc XW.length td]) (by kernel_rfl) ⟨(unhide HXB).row⟩ (fun hHeld => ?_)
            refine wpAnyH_take (i := 1) (v := ?v1) rfl (by kernel_rfl) (by kernel_rfl) (by kernel_rfl) (fun _ _ _ h => h) (Or.inl ⟨by rfl, ?k1⟩) (by assumption) ?_
            case k1 => (intro w0 hSw; obtain ⟨s0, s1, s2⟩ := hSw.three; go_simp; try (with_reducible rfl))
            try simp only [Act.put]
            refine wpAnyH_take (i := 2) (v := ?v2) rfl (by kernel_rfl) (by kernel_rfl) (by kernel_rfl) (fun _ _ _ h => h) (Or.inl ⟨by rfl, ?k2⟩) (by assumption) ?_
            case k2 => (intro w0 hSw; obtain ⟨s0, s1, s2⟩ := hSw.three; go_simp; try (with_reducible rfl))
            try simp only [Act.put]
            refine wpAnyH_take (i := 4) (v := ?v4) rfl (by kernel_rfl) (by kernel_rfl) (by kernel_rfl) (fun _ _ _ h => h) (Or.inl ⟨by rfl, ?k4⟩) (by assumption) ?_
            case k4 => (intro w0 hSw; obtain ⟨s0, s1, s2⟩ := hSw.three; go_simp; try (with_reducible rfl))
            try simp only [Act.put]
            refine wpAnyH_take (i := 5) (v := ?v5) rfl (by kernel_rfl) (by kernel_rfl) (by kernel_rfl) (fun _ _ _ h => h) (Or.inl ⟨by rfl, ?k5⟩) (by assumption) ?_
            case k5 => (intro w0 hSw; obtain ⟨s0, s1, s2⟩ := hSw.three; go_simp; try (with_reducible rfl))
            try simp only [Act.put]
            refine wpAnyH_ready (rs := [0]) (by kernel_rfl) (by simp) ?_
            refine AllReadyH.cons rfl (fun K hK => ?_) AllReadyH.nil
            go_simp
            clear hHeld
            refine hK.out _ _ (by with_reducible (repeat (first | exact unhide HXB | apply Bx.drewK | apply Bx.allocK))) (fun hHeld => ?_)
            clear hK K
            refine wpAnyH_ready (rs := [3]) (by kernel_rfl) (by simp) ?_
            refine AllReadyH.cons rfl (fun K hK => ?_) AllReadyH.nil
            refine step_append_at (by rfl) (.tmp 152) (.tmp 154) 23 (by rfl) (wo.heap.size) 27 i0 (.agg #[.int .i64 0, .int .i64 0, .bool false, .bool false]) 4 24 Try.underlying23 hi hz0 hz1 hz2 rfl (by decide) (.slice (some ⟨wo.heap.size, 0, none⟩) 0 0) 0 [] (by rfl) (by with_reducible (repeat (first | exact ownsRow_madeS wo _ rfl (Nat.le_refl _) | exact ownsRow_madeS wo.drew _ rfl (Nat.le_refl _) | apply World.ownsRow.drew | apply World.ownsRow.alloc))) ta XH.length tb (XH.flatMap hdE) (by rfl) (flat_len hdE_len _) (RowAt.src (by with_reducible (repeat (first | exact (unhide HXR).held | apply RowAt.drewK | apply RowAt.allocK)))).2 (hd_one _) (by unfold maxLen; omega) (by omega) (by first | omega | (simp; omega) | (simp; done)) _ rfl ?_
            intro b9 cap9 w9 hown9 hgrow9 hat9
            rw [Nat.zero_add] at hown9 hat9 ⊢
            rw [List.nil_append] at hown9
            have HB9 : Hid (Below wo.heap.size wo w9) := Below.grown (by with_reducible (repeat (first | exact Below.refl _ _ | apply Below.drew | refine Below.alloc ?_ (by simp) _))) hgrow9 (by first | (simp; done) | (simp; omega)) (fun q hq => by simp [Value.ownBlock] at hq; omega)
            have HO9 := hide hown9
            have z9 := (unhide HB9).size
            clear hown9 hgrow9 hat9 hHeld
            refine hK.out _ _ ((unhide HXB).kept (unhide HB9)) (fun hHeld => ?_)
            clear hK K
            refine wpAnyH_ready (rs := [6]) (by kernel_rfl) (by simp) ?_
            refine AllReadyH.cons rfl (fun K hK => ?_) AllReadyH.nil
            refine step_append_at (by rfl) (.tmp 155) (.tmp 157) 23 (by rfl) (wo.heap.size) 27 i0 (.agg #[.int .i64 0, .int .i64 0, .bool false, .bool false]) 4 24 Try.underlying23 hi hz0 hz1 hz2 rfl (by decide) (.slice b9 XH.length cap9) XH.length (XH.flatMap hdE) (by rfl) (unhide HO9) tc XW.length td (XW.flatMap hdE) (by rfl) (flat_len hdE_len _) (RowAt.src ((unhide HXR).waits.kept (unhide HB9))).2 (hd_one _) (by unfold maxLen; omega) (by omega) (by first | omega | (simp; omega) | (simp; done)) _ rfl ?_
            intro b10 cap10 w10 hown10 hgrow10 hat10
            have HB10 : Hid (Below wo.heap.size wo w10) := Below.grown (unhide HB9) hgrow10 (by omega) (fun q hq => ((unhide HO9).lt q hq).1)
            have hown11 : w10.ownsRow wo.heap.size 27 4 (.slice b10 (XH.length + XW.length) cap10) (XH ++ XW).length ((XH ++ XW).flatMap hdE) := by rw [List.length_append, List.flatMap_append]; exact hown10
            have HAL := hide (RowAt.of_own hown11)
            clear hown10 hown11 hgrow10 hat10 hHeld
            refine hK.out _ _ ((unhide HXB).kept (unhide HB10)) (fun hHeld => ?_)
            clear hK K
            refine wpAnyH_take (i := 7) (v := ?v7) rfl (by kernel_rfl) (by kernel_rfl) (by kernel_rfl) (fun _ _ _ h => h) (Or.inl ⟨by rfl, ?k7⟩) (by assumption) ?_
            case k7 => (intro w0 hSw; go_simp; try (with_reducible rfl))
            try simp only [Act.put]
            refine wpAnyH_done (by kernel_rfl) ?_ _
            clear hHeld
            have hlA : (XH ++ XW).length = XH.length + XW.length := by simp
            generalize hAL : XH ++ XW = AL at *
            clear hAL
            rw [← hlA]
            have hA80 : AL.length ≤ 80 := by omega
            clear hlA
            generalize hN : AL.length = N at *
            have HN := hide hN
            clear hN
            go_wp2_with fail
            go_loopw [13, 14] (fun f i wr => ∃ k : Nat, k ≤ N ∧ i = .int .i64 k ∧ f = .int .i64 (((AL.take k).filter (fun y => y.stamp == hs)).length : Nat) ∧ Below w10.heap.size w10 wr) (fun _ i _ => N - (intOf i).toNat)
            case atStart => exact ⟨0, Nat.zero_le _, rfl, rfl, Below.refl _ _⟩
            case round =>
              obtain ⟨k, hk, rfl, rfl, hb⟩ := hrel
              have HBQ := hide hb
              have hbh := (unhide HB10).trans (hb.mono (unhide HB10).size)
              obtain ⟨r0, r1, r2, r3⟩ := ((unhide HHB).kept hbh).four
              clear hb
              by_cases hlt : k < N
              ·
                obtain ⟨ba, oa, rfl⟩ := (unhide HAL).some_of (by rw [unhide HN]; omega)
                obtain ⟨d0, d1, d2, d3⟩ := hd_cells ((unhide HAL).kept (unhide HBQ)) (i := k) (by rw [unhide HN]; exact hlt)
                have hst := filt_step (p := fun y : Hd => y.stamp == hs) (l := AL) (k := k) (by rw [unhide HN]; exact hlt)
                have hge := unhide HM4 k hlt
                have hfl : ((AL.take k).filter (fun y => y.stamp == hs)).length ≤ k := by have := List.length_filter_le (fun y : Hd => y.stamp == hs) (AL.take k); have := List.length_take_le k AL; omega
                generalize AL.getD k Hd.z = x at *
                have HST := hide hst
                clear hst hbh
                have ia : (k : Int) < (N : Int) := by omega
                have ib : (0 : Int) ≤ (k : Int) := by omega
                generalize ((AL.take k).filter (fun y => y.stamp == hs)) = F at *
                by_cases hsx : x.stamp = hs
                · have hsb : (x.stamp == hs) = true := by simpa using hsx
                  have hdc : decide (x.try_ < ht) = false := by have := hge hsx; simp; omega
                  have HSB := hide hsb
                  have hwf : IntKind.i64.wrap ((F.length : Int) + 1) = (F.length : Int) + 1 := by rw [IntKind.wrap_i64]; omega
                  clear hsx hge
                  go_wp2_with fail
                  go_quiet (fail)
                  go_wp2_with fail
                  go_quiet (fail)
                  go_wp2_with fail
                  go_roundw
                  case rel =>
                    refine ⟨k + 1, hlt, by go_num, ?_, below_drewN (unhide HBQ) _⟩
                    rw [unhide HST, unhide HSB]; simp
                  case measure => simp [intOf]; omega
                · have hsb : (x.stamp == hs) = false := by simpa using hsx
                  have HSB := hide hsb
                  clear hsx hge
                  go_wp2_with fail
                  go_quiet (fail)
                  go_wp2_with fail
                  go_roundw
                  case rel =>
                    refine ⟨k + 1, hlt, by go_num, ?_, below_drewN (unhide HBQ) _⟩
                    rw [unhide HST, unhide HSB]; simp
                  case measure => simp [intOf]; omega
              ·
                obtain rfl : k = N := by omega
                have hfull : AL.take k = AL := List.take_of_length_le (by rw [unhide HN]; omega)
                rw [hfull, unhide HM3]
                go_wp2_with fail
                go_ret
                have hbf := (unhide HB).trans ((unhide HBR).mono (unhide HB).size)
                exact ⟨rfl, hbf.trans (hbh.mono hbf.size)⟩

end Go.Proofs.Ytoojnhodjkpecaa
