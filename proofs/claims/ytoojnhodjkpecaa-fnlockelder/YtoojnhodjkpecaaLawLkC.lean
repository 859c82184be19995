/- The law FnLockElder answers true at every code. -/
import Derived.Test.YtoojnhodjkpecaaLwK
import Derived.Test.YtoojnhodjkpecaaDrL5
namespace Go.Proofs.Ytoojnhodjkpecaa
open Go.RowKit

set_option maxRecDepth 100000 in
set_option maxHeartbeats 1000000 in
theorem lawLockElder_any (v : Value) (n : Nat) (w : World) (hv : BytesAt w v n) :
    Calls Try.prog 7 #[v] w fun e w' => e = .returned (.bool true) ∧ Below w.heap.size w w' := by
  have HV := hide hv
  obtain ⟨a, cap, rfl, h1, h2, h3⟩ := hv
  unfold maxLen at h2
  clear h3
  by_cases hn : 1048576 < (n : Int)
  · go_enter Try.func7, Try.ntmps7
    go_wp2_with fail
    go_ret
    exact ⟨rfl, Below.refl _ _⟩
  go_enter Try.func7, Try.ntmps7
  go_wp2_with fail
  refine (drawLockAsk_any _ n w (unhide HV)).mono ?_; rintro e w1 ⟨l, a, b, x, rfl, hk1, hln, hlm, hxt, b1⟩
  clear HV h1 h2
  obtain ⟨a0, c0, rfl, -⟩ := hk1.held.shape
  obtain ⟨a1, c1, rfl, -⟩ := hk1.waits.shape
  obtain ⟨slot, H, W⟩ := l
  obtain ⟨xs, xt, xh, xf⟩ := x
  simp only [lkV, hdV] at *
  have HK := hide hk1
  have HB := hide b1
  have HXT := hide hxt
  clear hk1 b1 hxt
  have HCS := hide (fun ww hk => askS_law (⟨slot, H, W⟩ : Lk) (.slice a0 H.length c0) (.slice a1 W.length c1) (⟨xs, xt, xh, xf⟩ : Hd) ww hk hln hlm)
  have HCI := hide (fun ww hk => askI_law (⟨slot, H, W⟩ : Lk) (.slice a0 H.length c0) (.slice a1 W.length c1) (⟨xs, xt, xh, xf⟩ : Hd) ww hk hln hlm)
  have HOS := hide (fun ww hk => lockOkS_law (⟨slot, H, W⟩ : Lk) (.slice a0 H.length c0) (.slice a1 W.length c1) ww hk hln hlm)
  have HOI := hide (fun ww hk => lockOkI_law (⟨slot, H, W⟩ : Lk) (.slice a0 H.length c0) (.slice a1 W.length c1) ww hk hln hlm)
  have hle := ask_40 (⟨slot, H, W⟩ : Lk) (⟨xs, xt, xh, xf⟩ : Hd)
  have hT : (askT (⟨slot, H, W⟩ : Lk) (⟨xs, xt, xh, xf⟩ : Hd)).length ≤ 1048576 := (ask_le (⟨slot, H, W⟩ : Lk) (⟨xs, xt, xh, xf⟩ : Hd)).2.2
  have HOX := hide (fun ww a b hk => lockOkI_law (askL (⟨slot, H, W⟩ : Lk) (⟨xs, xt, xh, xf⟩ : Hd)) a b ww hk (by omega) (by omega))
  have HM : Hid (lockOkB (⟨slot, H, W⟩ : Lk) = true → xf = false → 1 ≤ xs → xs ≤ 9999 → 1 ≤ xt → xt ≤ 9999 → H.length + W.length < 16 → (∀ j, j < H.length → (H.getD j Hd.z).firm = false ∧ xs < (H.getD j Hd.z).stamp) → (∀ j, j < W.length → xs < (W.getD j Hd.z).stamp) → askC (⟨slot, H, W⟩ : Lk) (⟨xs, xt, xh, xf⟩ : Hd) = true) := fun h0 h1 h2 h3 h4 h5 h6 h7 h8 => by
    refine ask_elder h0 (by simp [badB, holdOkB, inB, h1, h2, h3, h4, h5]) h6 (fun y hy => ?_) (fun y hy => ?_)
    · obtain ⟨j, hj, rfl⟩ := List.getElem_of_mem hy
      have := h7 j hj
      rwa [show H.getD j Hd.z = H[j] from by simp [List.getD, hj]] at this
    · obtain ⟨j, hj, rfl⟩ := List.getElem_of_mem hy
      have := h8 j hj
      rwa [show W.getD j Hd.z = W[j] from by simp [List.getD, hj]] at this
  generalize askL (⟨slot, H, W⟩ : Lk) (⟨xs, xt, xh, xf⟩ : Hd) = X at *
  generalize askC (⟨slot, H, W⟩ : Lk) (⟨xs, xt, xh, xf⟩ : Hd) = C at *
  generalize askT (⟨slot, H, W⟩ : Lk) (⟨xs, xt, xh, xf⟩ : Hd) = T at *
  generalize lockOkB (⟨slot, H, W⟩ : Lk) = OK at *
  obtain ⟨xslot, XH, XW⟩ := X
  simp only [lkV, hdV] at *
  obtain ⟨hXH, hXW⟩ := hle
  have hcc : (C != C) = false := by simp
  have hoo : (OK != OK) = false := by simp
  have hce : (C == C) = true := by simp
  go_wp2_with fail
  obtain ⟨wA, hwA⟩ : ∃ z, z = ((w1.alloc (.cells #[.int .i64 slot, .slice a0 H.length c0, .slice a1 W.length c1] 25)).alloc (.cells #[.int .i64 xs, .int .i64 xt, .bool xh, .bool xf] 27)) := ⟨_, rfl⟩
  have hbn : Below w1.heap.size w1 wA := by rw [hwA]; exact ((Below.refl _ _).alloc (Nat.le_refl _) _).alloc (by simp; try omega) _
  have HL : Hid (Bx wA (w1.heap.size) 25 #[.int .i64 slot, .slice a0 H.length c0, .slice a1 W.length c1]) := by rw [hwA]; exact (Bx.made _ _ _).allocK
  have HH : Hid (Bx wA (w1.heap.size + 1) 27 #[.int .i64 xs, .int .i64 xt, .bool xh, .bool xf]) := by rw [hwA]; exact ⟨heap_alloc2_new w1 (.cells #[.int .i64 slot, .slice a0 H.length c0, .slice a1 W.length c1] 25) (.cells #[.int .i64 xs, .int .i64 xt, .bool xh, .bool xf] 27)⟩
  rw [← hwA]
  clear hwA
  replace HK := hide ((unhide HK).kept hbn)
  replace HB := hide ((unhide HB).trans (hbn.mono (unhide HB).size))
  clear hbn
  refine (unhide HCS _ (unhide HK)).mono ?_; rintro e w2 ⟨sa, sb, sc, sd, sr, st, rfl, hx2, ht2, h2⟩
  replace HK := hide ((unhide HK).kept h2)
  replace HL := hide ((unhide HL).kept h2)
  replace HH := hide ((unhide HH).kept h2)
  replace HB := hide ((unhide HB).trans (h2.mono (unhide HB).size))
  clear h2
  have HSX := hide hx2
  have HST := hide ht2
  clear hx2 ht2 HCS
  obtain ⟨hl0, hl1, hl2⟩ := (unhide HL).three
  have hlt := (unhide HL).lt
  obtain ⟨hh0, hh1, hh2, hh3⟩ := (unhide HH).four
  have hht := (unhide HH).lt
  go_wp2_with fail
  clear hl0 hl1 hl2 hlt hh0 hh1 hh2 hh3 hht
  obtain ⟨wB, hwB⟩ : ∃ z, z = (w2.alloc (.cells #[.int .i64 xslot, .slice sa XH.length sb, .slice sc XW.length sd] 25)) := ⟨_, rfl⟩
  have hbn : Below w2.heap.size w2 wB := by rw [hwB]; exact (Below.refl _ _).alloc (Nat.le_refl _) _
  have HS : Hid (Bx wB (w2.heap.size) 25 #[.int .i64 xslot, .slice sa XH.length sb, .slice sc XW.length sd]) := by rw [hwB]; exact Bx.made _ _ _
  rw [← hwB]
  clear hwB
  replace HK := hide ((unhide HK).kept hbn)
  replace HL := hide ((unhide HL).kept hbn)
  replace HH := hide ((unhide HH).kept hbn)
  replace HSX := hide ((unhide HSX).kept hbn)
  replace HST := hide ((unhide HST).kept hbn)
  replace HB := hide ((unhide HB).trans (hbn.mono (unhide HB).size))
  clear hbn
  refine (unhide HCI _ (unhide HK)).mono ?_; rintro e w4 ⟨ta, tb, tc, td, tr, tt, rfl, hx4, ht4, h4⟩
  replace HK := hide ((unhide HK).kept h4)
  replace HL := hide ((unhide HL).kept h4)
  replace HH := hide ((unhide HH).kept h4)
  replace HSX := hide ((unhide HSX).kept h4)
  replace HST := hide ((unhide HST).kept h4)
  replace HS := hide ((unhide HS).kept h4)
  replace HB := hide ((unhide HB).trans (h4.mono (unhide HB).size))
  clear h4
  have HTX := hide hx4
  have HTT := hide ht4
  clear hx4 ht4 HCI
  obtain ⟨hl0, hl1, hl2⟩ := (unhide HL).three
  have hlt := (unhide HL).lt
  obtain ⟨hh0, hh1, hh2, hh3⟩ := (unhide HH).four
  have hht := (unhide HH).lt
  obtain ⟨hs0, hs1, hs2⟩ := (unhide HS).three
  have hst := (unhide HS).lt
  go_wp2_with fail
  clear hl0 hl1 hl2 hlt hh0 hh1 hh2 hh3 hht hs0 hs1 hs2 hst
  obtain ⟨wC, hwC⟩ : ∃ z, z = (w4.alloc (.cells #[.int .i64 xslot, .slice ta XH.length tb, .slice tc XW.length td] 25)) := ⟨_, rfl⟩
  have hbn : Below w4.heap.size w4 wC := by rw [hwC]; exact (Below.refl _ _).alloc (Nat.le_refl _) _
  have HT_ : Hid (Bx wC (w4.heap.size) 25 #[.int .i64 xslot, .slice ta XH.length tb, .slice tc XW.length td]) := by rw [hwC]; exact Bx.made _ _ _
  rw [← hwC]
  clear hwC
  replace HK := hide ((unhide HK).kept hbn)
  replace HL := hide ((unhide HL).kept hbn)
  replace HH := hide ((unhide HH).kept hbn)
  replace HSX := hide ((unhide HSX).kept hbn)
  replace HST := hide ((unhide HST).kept hbn)
  replace HS := hide ((unhide HS).kept hbn)
  replace HTX := hide ((unhide HTX).kept hbn)
  replace HTT := hide ((unhide HTT).kept hbn)
  replace HB := hide ((unhide HB).trans (hbn.mono (unhide HB).size))
  clear hbn
  refine (loLock_same ⟨xslot, XH, XW⟩ _ _ _ _ _ (unhide HTX) (unhide HSX)).mono ?_; rintro e w5 ⟨rfl, h5⟩
  replace HK := hide ((unhide HK).kept h5)
  replace HL := hide ((unhide HL).kept h5)
  replace HH := hide ((unhide HH).kept h5)
  replace HSX := hide ((unhide HSX).kept h5)
  replace HST := hide ((unhide HST).kept h5)
  replace HS := hide ((unhide HS).kept h5)
  replace HTX := hide ((unhide HTX).kept h5)
  replace HTT := hide ((unhide HTT).kept h5)
  replace HT_ := hide ((unhide HT_).kept h5)
  replace HB := hide ((unhide HB).trans (h5.mono (unhide HB).size))
  clear h5
  obtain ⟨hl0, hl1, hl2⟩ := (unhide HL).three
  have hlt := (unhide HL).lt
  go_wp2_with fail
  clear hl0 hl1 hl2 hlt
  refine (unhide HOS _ (unhide HK)).mono ?_; rintro e w7 ⟨rfl, h7⟩
  replace HK := hide ((unhide HK).kept h7)
  replace HL := hide ((unhide HL).kept h7)
  replace HH := hide ((unhide HH).kept h7)
  replace HSX := hide ((unhide HSX).kept h7)
  replace HST := hide ((unhide HST).kept h7)
  replace HS := hide ((unhide HS).kept h7)
  replace HTX := hide ((unhide HTX).kept h7)
  replace HTT := hide ((unhide HTT).kept h7)
  replace HT_ := hide ((unhide HT_).kept h7)
  replace HB := hide ((unhide HB).trans (h7.mono (unhide HB).size))
  clear h7
  clear HOS
  cases OK
  ·
    obtain ⟨ht_0, ht_1, ht_2⟩ := (unhide HT_).three
    have ht_t := (unhide HT_).lt
    obtain ⟨hs0, hs1, hs2⟩ := (unhide HS).three
    have hst := (unhide HS).lt
    go_wp2_with fail
    clear ht_0 ht_1 ht_2 ht_t hs0 hs1 hs2 hst
    refine (loLock_same ⟨xslot, XH, XW⟩ _ _ _ _ _ (unhide HTX) (unhide HSX)).mono ?_; rintro e w8 ⟨rfl, h5⟩
    replace HK := hide ((unhide HK).kept h5)
    replace HL := hide ((unhide HL).kept h5)
    replace HH := hide ((unhide HH).kept h5)
    replace HSX := hide ((unhide HSX).kept h5)
    replace HST := hide ((unhide HST).kept h5)
    replace HS := hide ((unhide HS).kept h5)
    replace HTX := hide ((unhide HTX).kept h5)
    replace HTT := hide ((unhide HTT).kept h5)
    replace HT_ := hide ((unhide HT_).kept h5)
    replace HB := hide ((unhide HB).trans (h5.mono (unhide HB).size))
    clear h5
    go_wp2_with fail
    go_ret
    exact ⟨rfl, unhide HB⟩
  ·
    cases xf
    case true =>
      obtain ⟨ht_0, ht_1, ht_2⟩ := (unhide HT_).three
      have ht_t := (unhide HT_).lt
      obtain ⟨hs0, hs1, hs2⟩ := (unhide HS).three
      have hst := (unhide HS).lt
      obtain ⟨hl0, hl1, hl2⟩ := (unhide HL).three
      have hlt := (unhide HL).lt
      obtain ⟨hh0, hh1, hh2, hh3⟩ := (unhide HH).four
      have hht := (unhide HH).lt
      go_wp2_with fail
      clear ht_0 ht_1 ht_2 ht_t hs0 hs1 hs2 hst hl0 hl1 hl2 hlt hh0 hh1 hh2 hh3 hht
      refine (loLock_same ⟨xslot, XH, XW⟩ _ _ _ _ _ (unhide HTX) (unhide HSX)).mono ?_; rintro e w8 ⟨rfl, h5⟩
      replace HK := hide ((unhide HK).kept h5)
      replace HL := hide ((unhide HL).kept h5)
      replace HH := hide ((unhide HH).kept h5)
      replace HSX := hide ((unhide HSX).kept h5)
      replace HST := hide ((unhide HST).kept h5)
      replace HS := hide ((unhide HS).kept h5)
      replace HTX := hide ((unhide HTX).kept h5)
      replace HTT := hide ((unhide HTT).kept h5)
      replace HT_ := hide ((unhide HT_).kept h5)
      replace HB := hide ((unhide HB).trans (h5.mono (unhide HB).size))
      clear h5
      go_wp2_with fail
      go_ret
      exact ⟨rfl, unhide HB⟩
    by_cases c149 : xs < 1
    case pos =>
      obtain ⟨ht_0, ht_1, ht_2⟩ := (unhide HT_).three
      have ht_t := (unhide HT_).lt
      obtain ⟨hs0, hs1, hs2⟩ := (unhide HS).three
      have hst := (unhide HS).lt
      obtain ⟨hl0, hl1, hl2⟩ := (unhide HL).three
      have hlt := (unhide HL).lt
      obtain ⟨hh0, hh1, hh2, hh3⟩ := (unhide HH).four
      have hht := (unhide HH).lt
      go_wp2_with fail
      clear ht_0 ht_1 ht_2 ht_t hs0 hs1 hs2 hst hl0 hl1 hl2 hlt hh0 hh1 hh2 hh3 hht
      refine (loLock_same ⟨xslot, XH, XW⟩ _ _ _ _ _ (unhide HTX) (unhide HSX)).mono ?_; rintro e w8 ⟨rfl, h5⟩
      replace HK := hide ((unhide HK).kept h5)
      replace HL := hide ((unhide HL).kept h5)
      replace HH := hide ((unhide HH).kept h5)
      replace HSX := hide ((unhide HSX).kept h5)
      replace HST := hide ((unhide HST).kept h5)
      replace HS := hide ((unhide HS).kept h5)
      replace HTX := hide ((unhide HTX).kept h5)
      replace HTT := hide ((unhide HTT).kept h5)
      replace HT_ := hide ((unhide HT_).kept h5)
      replace HB := hide ((unhide HB).trans (h5.mono (unhide HB).size))
      clear h5
      go_wp2_with fail
      go_ret
      exact ⟨rfl, unhide HB⟩
    by_cases c174 : 9999 < xs
    case pos =>
      obtain ⟨ht_0, ht_1, ht_2⟩ := (unhide HT_).three
      have ht_t := (unhide HT_).lt
      obtain ⟨hs0, hs1, hs2⟩ := (unhide HS).three
      have hst := (unhide HS).lt
      obtain ⟨hl0, hl1, hl2⟩ := (unhide HL).three
      have hlt := (unhide HL).lt
      obtain ⟨hh0, hh1, hh2, hh3⟩ := (unhide HH).four
      have hht := (unhide HH).lt
      go_wp2_with fail
      clear ht_0 ht_1 ht_2 ht_t hs0 hs1 hs2 hst hl0 hl1 hl2 hlt hh0 hh1 hh2 hh3 hht
      refine (loLock_same ⟨xslot, XH, XW⟩ _ _ _ _ _ (unhide HTX) (unhide HSX)).mono ?_; rintro e w8 ⟨rfl, h5⟩
      replace HK := hide ((unhide HK).kept h5)
      replace HL := hide ((unhide HL).kept h5)
      replace HH := hide ((unhide HH).kept h5)
      replace HSX := hide ((unhide HSX).kept h5)
      replace HST := hide ((unhide HST).kept h5)
      replace HS := hide ((unhide HS).kept h5)
      replace HTX := hide ((unhide HTX).kept h5)
      replace HTT := hide ((unhide HTT).kept h5)
      replace HT_ := hide ((unhide HT_).kept h5)
      replace HB := hide ((unhide HB).trans (h5.mono (unhide HB).size))
      clear h5
      go_wp2_with fail
      go_ret
      exact ⟨rfl, unhide HB⟩
    by_cases c199 : xt < 1
    case pos =>
      obtain ⟨ht_0, ht_1, ht_2⟩ := (unhide HT_).three
      have ht_t := (unhide HT_).lt
      obtain ⟨hs0, hs1, hs2⟩ := (unhide HS).three
      have hst := (unhide HS).lt
      obtain ⟨hl0, hl1, hl2⟩ := (unhide HL).three
      have hlt := (unhide HL).lt
      obtain ⟨hh0, hh1, hh2, hh3⟩ := (unhide HH).four
      have hht := (unhide HH).lt
      go_wp2_with fail
      clear ht_0 ht_1 ht_2 ht_t hs0 hs1 hs2 hst hl0 hl1 hl2 hlt hh0 hh1 hh2 hh3 hht
      refine (loLock_same ⟨xslot, XH, XW⟩ _ _ _ _ _ (unhide HTX) (unhide HSX)).mono ?_; rintro e w8 ⟨rfl, h5⟩
      replace HK := hide ((unhide HK).kept h5)
      replace HL := hide ((unhide HL).kept h5)
      replace HH := hide ((unhide HH).kept h5)
      replace HSX := hide ((unhide HSX).kept h5)
      replace HST := hide ((unhide HST).kept h5)
      replace HS := hide ((unhide HS).kept h5)
      replace HTX := hide ((unhide HTX).kept h5)
      replace HTT := hide ((unhide HTT).kept h5)
      replace HT_ := hide ((unhide HT_).kept h5)
      replace HB := hide ((unhide HB).trans (h5.mono (unhide HB).size))
      clear h5
      go_wp2_with fail
      go_ret
      exact ⟨rfl, unhide HB⟩
    by_cases c224 : 9999 < xt
    case pos =>
      obtain ⟨ht_0, ht_1, ht_2⟩ := (unhide HT_).three
      have ht_t := (unhide HT_).lt
      obtain ⟨hs0, hs1, hs2⟩ := (unhide HS).three
      have hst := (unhide HS).lt
      obtain ⟨hl0, hl1, hl2⟩ := (unhide HL).three
      have hlt := (unhide HL).lt
      obtain ⟨hh0, hh1, hh2, hh3⟩ := (unhide HH).four
      have hht := (unhide HH).lt
      go_wp2_with fail
      clear ht_0 ht_1 ht_2 ht_t hs0 hs1 hs2 hst hl0 hl1 hl2 hlt hh0 hh1 hh2 hh3 hht
      refine (loLock_same ⟨xslot, XH, XW⟩ _ _ _ _ _ (unhide HTX) (unhide HSX)).mono ?_; rintro e w8 ⟨rfl, h5⟩
      replace HK := hide ((unhide HK).kept h5)
      replace HL := hide ((unhide HL).kept h5)
      replace HH := hide ((unhide HH).kept h5)
      replace HSX := hide ((unhide HSX).kept h5)
      replace HST := hide ((unhide HST).kept h5)
      replace HS := hide ((unhide HS).kept h5)
      replace HTX := hide ((unhide HTX).kept h5)
      replace HTT := hide ((unhide HTT).kept h5)
      replace HT_ := hide ((unhide HT_).kept h5)
      replace HB := hide ((unhide HB).trans (h5.mono (unhide HB).size))
      clear h5
      go_wp2_with fail
      go_ret
      exact ⟨rfl, unhide HB⟩
    have hwr : IntKind.i64.wrap ((H.length : Int) + (W.length : Int)) = (H.length : Int) + (W.length : Int) := by rw [IntKind.wrap_i64]; omega
    by_cases c16 : (16 : Int) ≤ (H.length : Int) + (W.length : Int)
    case pos =>
      obtain ⟨ht_0, ht_1, ht_2⟩ := (unhide HT_).three
      have ht_t := (unhide HT_).lt
      obtain ⟨hs0, hs1, hs2⟩ := (unhide HS).three
      have hst := (unhide HS).lt
      obtain ⟨hl0, hl1, hl2⟩ := (unhide HL).three
      have hlt := (unhide HL).lt
      obtain ⟨hh0, hh1, hh2, hh3⟩ := (unhide HH).four
      have hht := (unhide HH).lt
      go_wp2_with fail
      clear ht_0 ht_1 ht_2 ht_t hs0 hs1 hs2 hst hl0 hl1 hl2 hlt hh0 hh1 hh2 hh3 hht
      refine (loLock_same ⟨xslot, XH, XW⟩ _ _ _ _ _ (unhide HTX) (unhide HSX)).mono ?_; rintro e w8 ⟨rfl, h5⟩
      replace HK := hide ((unhide HK).kept h5)
      replace HL := hide ((unhide HL).kept h5)
      replace HH := hide ((unhide HH).kept h5)
      replace HSX := hide ((unhide HSX).kept h5)
      replace HST := hide ((unhide HST).kept h5)
      replace HS := hide ((unhide HS).kept h5)
      replace HTX := hide ((unhide HTX).kept h5)
      replace HTT := hide ((unhide HTT).kept h5)
      replace HT_ := hide ((unhide HT_).kept h5)
      replace HB := hide ((unhide HB).trans (h5.mono (unhide HB).size))
      clear h5
      go_wp2_with fail
      go_ret
      exact ⟨rfl, unhide HB⟩
    have HM2 := hide (unhide HM (by first | rfl | trivial) (by first | rfl | trivial) (by omega) (by omega) (by omega) (by omega) (by omega))
    obtain ⟨hl0, hl1, hl2⟩ := (unhide HL).three
    have hlt := (unhide HL).lt
    obtain ⟨hh0, hh1, hh2, hh3⟩ := (unhide HH).four
    have hht := (unhide HH).lt
    go_wp2_with fail
    clear hl0 hl1 hl2 hlt hh0 hh1 hh2 hh3 hht
    clear HM HSX HST HS HTX HTT HT_ HOI HOX
    generalize hN : H.length = N at *
    have HN := hide hN
    clear hN
    generalize hM : W.length = M at *
    have HMW := hide hM
    clear hM
    go_loopw [11] (fun i wr => ∃ k : Nat, k ≤ N ∧ i = .int .i64 k ∧ Below w7.heap.size w7 wr ∧ ∀ j, j < k → (H.getD j Hd.z).firm = false ∧ xs < (H.getD j Hd.z).stamp) (fun i _ => N - (intOf i).toNat)
    case atStart => exact ⟨0, Nat.zero_le _, rfl, Below.refl _ _, fun j hj => by omega⟩
    case round =>
      obtain ⟨k, hk, rfl, hb, hall⟩ := hrel
      have HALL := hide hall
      obtain ⟨t0, t1, t2⟩ := ((unhide HL).kept hb).three
      obtain ⟨r0, r1, r2, r3⟩ := ((unhide HH).kept hb).four
      have HBR := hide hb
      clear hb hall
      by_cases hlt : k < N
      ·
        obtain ⟨bt, ot, rfl⟩ := ((unhide HK).held).some_of (by rw [unhide HN]; omega)
        obtain ⟨d0, d1, d2, d3⟩ := hd_cells (((unhide HK).held).kept (unhide HBR)) (i := k) (by rw [unhide HN]; exact hlt)
        generalize hx : H.getD k Hd.z = x at *
        have HX := hide hx
        clear hx
        have ia : (k : Int) < (N : Int) := by omega
        have ib : (0 : Int) ≤ (k : Int) := by omega
        cases hfx : x.firm
        case true =>
          rw [hfx] at d3
          go_wp2_with fail
          go_quiet (fail)
          go_wp2_with fail
          go_ret
          exact ⟨rfl, (unhide HB).trans ((below_drewN (unhide HBR) _).mono (unhide HB).size)⟩
        rw [hfx] at d3
        by_cases hle2 : x.stamp ≤ xs
        · have hdc : decide (x.stamp ≤ xs) = true := by simpa using hle2
          go_wp2_with fail
          go_quiet (fail)
          go_wp2_with fail
          go_ret
          exact ⟨rfl, (unhide HB).trans ((below_drewN (unhide HBR) _).mono (unhide HB).size)⟩
        · have hdc : decide (x.stamp ≤ xs) = false := by simpa using hle2
          have HFX : Hid (x.firm = false ∧ xs < x.stamp) := ⟨hfx, by omega⟩
          clear hfx hle2
          go_wp2_with fail
          go_quiet (fail)
          go_wp2_with fail
          go_roundw
          case rel =>
            refine ⟨k + 1, hlt, by go_num, below_drewN (unhide HBR) _, fun j hj => ?_⟩
            by_cases hjk : j = k
            · rw [hjk, unhide HX]; exact unhide HFX
            · exact unhide HALL j (by omega)
          case measure => simp [intOf]; omega
      ·
        obtain rfl : k = N := by omega
        rename World => wo
        go_wp2_with fail
        clear t0 t1 t2 r0 r1 r2 r3
        go_loopw [12] (fun i wr => ∃ q : Nat, q ≤ M ∧ i = .int .i64 q ∧ Below w7.heap.size w7 wr ∧ ∀ j, j < q → xs < (W.getD j Hd.z).stamp) (fun i _ => M - (intOf i).toNat)
        case atStart => exact ⟨0, Nat.zero_le _, rfl, unhide HBR, fun j hj => by omega⟩
        case round =>
          obtain ⟨q, hq, rfl, hb2, hall2⟩ := hrel
          have HALL2 := hide hall2
          obtain ⟨t0, t1, t2⟩ := ((unhide HL).kept hb2).three
          obtain ⟨r0, r1, r2, r3⟩ := ((unhide HH).kept hb2).four
          have HB2 := hide hb2
          clear hb2 hall2
          by_cases hlt2 : q < M
          ·
            obtain ⟨bu, ou, rfl⟩ := ((unhide HK).waits).some_of (by rw [unhide HMW]; omega)
            obtain ⟨d0, d1, d2, d3⟩ := hd_cells (((unhide HK).waits).kept (unhide HB2)) (i := q) (by rw [unhide HMW]; exact hlt2)
            generalize hx : W.getD q Hd.z = x at *
            have HX := hide hx
            clear hx
            have iqa : (q : Int) < (M : Int) := by omega
            have iqb : (0 : Int) ≤ (q : Int) := by omega
            by_cases hle2 : x.stamp ≤ xs
            · have hdc : decide (x.stamp ≤ xs) = true := by simpa using hle2
              go_wp2_with fail
              go_quiet (fail)
              go_wp2_with fail
              go_ret
              exact ⟨rfl, (unhide HB).trans ((below_drewN (unhide HB2) _).mono (unhide HB).size)⟩
            · have hdc : decide (x.stamp ≤ xs) = false := by simpa using hle2
              have HFX : Hid (xs < x.stamp) := by show xs < x.stamp; omega
              clear hle2
              go_wp2_with fail
              go_quiet (fail)
              go_wp2_with fail
              go_roundw
              case rel =>
                refine ⟨q + 1, hlt2, by go_num, below_drewN (unhide HB2) _, fun j hj => ?_⟩
                by_cases hjk : j = q
                · rw [hjk, unhide HX]; exact unhide HFX
                · exact unhide HALL2 j (by omega)
              case measure => simp [intOf]; omega
          ·
            obtain rfl : q = M := by omega
            have hC := unhide HM2 (unhide HALL) (unhide HALL2)
            subst hC
            go_wp2_with fail
            go_ret
            exact ⟨rfl, (unhide HB).trans ((unhide HB2).mono (unhide HB).size)⟩

end Go.Proofs.Ytoojnhodjkpecaa
