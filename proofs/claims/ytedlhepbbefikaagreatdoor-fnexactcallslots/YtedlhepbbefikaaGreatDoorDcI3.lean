/- Deals written: the program's way. -/
import Derived.Test.YtedlhepbbefikaaGreatDoorDcI2
namespace Go.Proofs.YtedlhepbbefikaaGreatDoor
open Go.RowKit

def stpE (x : St) : List Value := [stepV x]
theorem stpE_len (x : St) : (stpE x).length = 1 := rfl
theorem map_stp (ss : List St) : ss.map stepV = ss.flatMap stpE := by
  induction ss with
  | nil => rfl
  | cons x r ih => rw [List.map_cons, ih, List.flatMap_cons]; rfl

theorem BldAt.kept {w w' : World} {b base : Nat} {l : List UInt8} (h : BldAt w b base l) (hb : Below w.heap.size w w') : BldAt w' b base l := by
  obtain ⟨⟨p, v, h1, h2, h3⟩, h4⟩ := h
  exact ⟨⟨p, v, h1.kept hb, h2, ownsRow_below h3 hb⟩, h4⟩
theorem BldAt.is {w : World} {b base : Nat} {l : List UInt8} (h : BldAt w b base l) : Lib.IsBuilder 73 5 b b (Lib.byteCells l) w := by
  obtain ⟨⟨p, v, h1, h2, h3⟩, h4⟩ := h
  have hl := ownsRow_low h3
  have hx : Lib.BuilderAt 73 5 b b p (Lib.byteCells l) w := ⟨Nat.le_refl _, v, h1.row, by rw [Lib.byteCells_length]; exact ownsRow_base h3 (by omega), fun e => by have := (hl b e).1; omega⟩
  rcases h2 with rfl | rfl
  · exact .inl hx
  · exact .inr hx
theorem BldAt.made (w : World) : BldAt (w.alloc (.cells #[.pointer none, .slice none 0 0] 73)) w.heap.size (w.heap.size + 1) [] :=
  ⟨⟨_, _, Box.made w _ _, .inl rfl, ⟨by simp [Lib.byteCells], .inl ⟨rfl, rfl⟩⟩⟩, Nat.lt_succ_self _⟩

theorem stepV_get {K : Int} (h0 : 0 ≤ K) (h1 : K ≤ 31) : stepV ⟨1, K, 0⟩ = .iface 133 (.agg #[.int .i64 K]) := by
  simp [stepV, valB, inB, h0, h1]
theorem stepV_num {op K n : Int} (h0 : 0 ≤ K) (h1 : K ≤ 31) (h2 : -9999 ≤ n) (h3 : n ≤ 9999) (ho : op = 2 ∨ op = 3 ∨ op = 4) :
    stepV ⟨op, K, n⟩ = .iface (if op = 2 then 135 else if op = 3 then 136 else 137) (.agg #[.int .i64 K, .int .i64 n]) := by
  have e1 : inB K 0 31 = true := by simp [inB]; omega
  have e2 : valB n = true := by simp [valB, inB]; omega
  rcases ho with rfl | rfl | rfl <;> simp [stepV, e1, e2]

set_option maxRecDepth 100000 in
set_option maxHeartbeats 4000000 in
theorem iWrite_any (v : Value) (ss : List St) (w : World) (hv : StsAt w v ss) (hg : GW w) :
    Calls Tryz.prog 30 #[v] w fun e w' => e = .returned (.string (bsL (wrL ss))) ∧ Below w.heap.size w w' := by
  have HSO := hide (stepsOf_any v ss w hv)
  have HG := hide hg
  obtain ⟨a, cap, rfl, h1, h2, -⟩ := hv
  clear hg
  cases hok : dealOk ss
  · have HW : Hid (wrL ss = []) := by unfold wrL; rw [hok]; rfl
    generalize hN : ss.length = N at *
    clear hN
    rw [hok] at HSO
    clear hok
    go_enter Tryz.func30, Tryz.ntmps30
    go_wp2_with fail
    refine (unhide HSO).mono ?_; rintro e w1 ⟨r, rfl, -, hr, hb1⟩
    obtain rfl := hr (by first | rfl | trivial)
    go_wp2_with fail
    go_ret
    exact ⟨ret_val (by rw [unhide HW]; rfl), hb1⟩
  have HW : Hid (wrL ss = writeL ss) := by unfold wrL; rw [hok]; rfl
  have hall := dealOk_all hok
  have hlen := dealOk_num hok
  rw [hok] at HSO
  have HST := hide (fun k hk => List.all_eq_true.1 hall (ss.getD k St.z) (by rw [List.getD_eq_getElem?_getD, List.getElem?_eq_getElem hk]; exact List.getElem_mem hk))
  have HWL := hide (fun k => writeL_len (all_take hall k))
  have HWS := hide (fun k hk => writeL_step (ss := ss) (k := k) hk)
  have HNE : Hid (writeL ss ≠ []) := by
    intro e
    cases ss with
    | nil => simp at hlen
    | cons s D => simp [writeL, stL] at e
  generalize hN : ss.length = N at *
  have HN := hide hN
  unfold maxLen at h2
  clear hN hok hall
  go_enter Tryz.func30, Tryz.ntmps30
  go_wp2_with fail
  refine (unhide HSO).mono ?_; rintro e w1 ⟨r, rfl, hr, -, hb1⟩
  have hown := hr (by first | rfl | trivial)
  rw [map_stp, ← unhide HN] at hown
  have hrow := RowAt.of_own hown
  obtain ⟨ra, rc, rfl, -⟩ := hrow.shape
  obtain ⟨rb, ro, rfl⟩ := hrow.some_of (by rw [unhide HN]; omega)
  have HROW := hide hrow
  have HB1 := hide hb1
  rw [unhide HN]
  have hgb := lt_of_cell (hrow.cellsAt stpE_len St.z (i := 0) (by rw [unhide HN]; omega) (f := 0) (u := stepV (ss.getD 0 St.z)) rfl)
  clear hr hown hrow hb1 HSO
  go_wp2_with fail
  go_loopw [17] (fun i wr => ∃ k : Nat, k ≤ N ∧ i = .int .i64 k ∧ BldAt wr w1.heap.size (w1.heap.size + 1) (writeL (ss.take k)) ∧ Below w1.heap.size w1 wr ∧ w1.heap.size + 1 ≤ wr.heap.size) (fun i _ => N - (intOf i).toNat)
  case atStart => exact ⟨0, Nat.zero_le _, rfl, BldAt.made w1, (Below.refl _ _).alloc (Nat.le_refl _) _, by simp⟩
  case round =>
    obtain ⟨k, hk, rfl, hbl, hb, hsz⟩ := hrel
    have HBL := hide hbl
    have HB := hide hb
    have hbw : Below w.heap.size w wr := (unhide HB1).trans (hb.mono (unhide HB1).size)
    have HBW := hide hbw
    have HGR := hide ((unhide HG).kept hbw)
    have hwl := unhide HWL k
    have htl := List.length_take_le k ss
    have hps : (writeL (ss.take k)).length ≤ 120 := by omega
    clear hbw
    by_cases hlt : k < N
    · have c0 := (((unhide HROW).kept hb).cellsAt stpE_len St.z (i := k) (by rw [unhide HN]; exact hlt) (f := 0) (u := stepV (ss.getD k St.z)) rfl)
      have hst := unhide HST k hlt
      have hws := unhide HWS k hlt
      have hkI : (k : Int) < (N : Int) := by omega
      simp only [Nat.mul_one, Nat.add_zero] at c0
      generalize ss.getD k St.z = x at *
      obtain ⟨g1, g2, g3, g4, g5, g6, g7⟩ := stOk_bds hst
      have hsl := stL_len hst
      have HWS2 := hide hws
      have hss : (bsL (stL x)).size ≤ 20 := by rw [bsL_size]; omega
      have HSS := hide hss
      obtain ⟨op, key, num⟩ := x
      simp only at g1 g2 g3 g4 g5 g6 g7
      have hop : op = 1 ∨ op = 2 ∨ op = 3 ∨ op = 4 := by omega
      clear hws hwl htl hst hb hbl g1 g2 hsl
      have HWR := hide (fun (ww : World) (h : BldAt ww w1.heap.size (w1.heap.size + 1) (writeL (ss.take k))) (h2 : w1.heap.size + 1 ≤ ww.heap.size) => writeString_any _ _ _ (bsL (stL ⟨op, key, num⟩)) ww h h2 (by omega) (by have := unhide HSS; omega))
      clear hss
      rcases hop with rfl | rfl | rfl | rfl
      · obtain rfl := g7 rfl
        rw [stepV_get g3 g4] at c0
        have HT := hide (fun ww h => getText_any key ww h g3 g4)
        go_wp2_with fail
        refine (unhide HT _ (unhide HGR)).mono ?_; rintro e w2 ⟨rfl, hb2⟩
        have HB2 := hide hb2
        have hs2 := hb2.size
        clear hb2
        go_wp2_with fail
        refine (unhide HWR _ ((unhide HBL).kept (unhide HB2)) (by omega)).mono ?_; rintro e w3 ⟨rfl, hbl3, hb3⟩
        have HBL3 := hide hbl3
        have HB3 := hide hb3
        have hs3 := hb3.size
        clear hbl3 hb3
        go_wp2_with fail
        go_roundw
        case rel => exact ⟨k + 1, hlt, by go_num, by rw [unhide HWS2]; simpa [bsL] using unhide HBL3, ((unhide HB).trans ((unhide HB2).mono (by omega))).trans (unhide HB3), by omega⟩
        case measure => simp [intOf]; omega
      · rw [stepV_num g3 g4 g5 g6 (by omega)] at c0
        simp at c0
        have HT := hide (fun ww h => putText_any key num ww h g3 g4 g5 g6)
        go_wp2_with fail
        refine (unhide HT _ (unhide HGR)).mono ?_; rintro e w2 ⟨rfl, hb2⟩
        have HB2 := hide hb2
        have hs2 := hb2.size
        clear hb2
        go_wp2_with fail
        refine (unhide HWR _ ((unhide HBL).kept (unhide HB2)) (by omega)).mono ?_; rintro e w3 ⟨rfl, hbl3, hb3⟩
        have HBL3 := hide hbl3
        have HB3 := hide hb3
        have hs3 := hb3.size
        clear hbl3 hb3
        go_wp2_with fail
        go_roundw
        case rel => exact ⟨k + 1, hlt, by go_num, by rw [unhide HWS2]; simpa [bsL] using unhide HBL3, ((unhide HB).trans ((unhide HB2).mono (by omega))).trans (unhide HB3), by omega⟩
        case measure => simp [intOf]; omega
      · rw [stepV_num g3 g4 g5 g6 (by omega)] at c0
        simp at c0
        have HT := hide (fun ww h => addText_any key num ww h g3 g4 g5 g6)
        go_wp2_with fail
        refine (unhide HT _ (unhide HGR)).mono ?_; rintro e w2 ⟨rfl, hb2⟩
        have HB2 := hide hb2
        have hs2 := hb2.size
        clear hb2
        go_wp2_with fail
        refine (unhide HWR _ ((unhide HBL).kept (unhide HB2)) (by omega)).mono ?_; rintro e w3 ⟨rfl, hbl3, hb3⟩
        have HBL3 := hide hbl3
        have HB3 := hide hb3
        have hs3 := hb3.size
        clear hbl3 hb3
        go_wp2_with fail
        go_roundw
        case rel => exact ⟨k + 1, hlt, by go_num, by rw [unhide HWS2]; simpa [bsL] using unhide HBL3, ((unhide HB).trans ((unhide HB2).mono (by omega))).trans (unhide HB3), by omega⟩
        case measure => simp [intOf]; omega
      · rw [stepV_num g3 g4 g5 g6 (by omega)] at c0
        simp at c0
        have HT := hide (fun ww h => needText_any key num ww h g3 g4 g5 g6)
        go_wp2_with fail
        refine (unhide HT _ (unhide HGR)).mono ?_; rintro e w2 ⟨rfl, hb2⟩
        have HB2 := hide hb2
        have hs2 := hb2.size
        clear hb2
        go_wp2_with fail
        refine (unhide HWR _ ((unhide HBL).kept (unhide HB2)) (by omega)).mono ?_; rintro e w3 ⟨rfl, hbl3, hb3⟩
        have HBL3 := hide hbl3
        have HB3 := hide hb3
        have hs3 := hb3.size
        clear hbl3 hb3
        go_wp2_with fail
        go_roundw
        case rel => exact ⟨k + 1, hlt, by go_num, by rw [unhide HWS2]; simpa [bsL] using unhide HBL3, ((unhide HB).trans ((unhide HB2).mono (by omega))).trans (unhide HB3), by omega⟩
        case measure => simp [intOf]; omega
    · obtain rfl : k = N := by omega
      have hfull : writeL (ss.take k) = writeL ss := by rw [List.take_of_length_le (by rw [unhide HN]; exact Nat.le_refl _)]
      rw [hfull] at HBL
      have HSTR := hide (Tryz.Builder_String w1.heap.size w1.heap.size (writeL ss) wr (unhide HBL).is (unhide HNE))
      clear hb hbl hfull hwl htl
      go_wp2_with fail
      refine (unhide HSTR).mono ?_; rintro e w2 ⟨rfl, hb2⟩
      go_wp2_with fail
      go_ret
      refine ⟨ret_val (by rw [unhide HW]; rfl), ?_⟩
      have h3 : Below w1.heap.size w1 w2 := (unhide HB).trans hb2
      exact (unhide HB1).trans (h3.mono (unhide HB1).size)

end Go.Proofs.YtedlhepbbefikaaGreatDoor
