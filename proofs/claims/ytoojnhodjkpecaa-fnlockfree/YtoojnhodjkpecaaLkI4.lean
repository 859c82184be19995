/- The program says whether holds are ok. -/
import Derived.Test.YtoojnhodjkpecaaLkI3
namespace Go.Proofs.Ytoojnhodjkpecaa
open Go.RowKit Go.Shelf

def holdsB (hs : List Hd) : Bool := hs.all holdOkB && ascB hs

set_option maxRecDepth 100000 in
set_option maxHeartbeats 1000000 in
theorem holdsOk_any (v : Value) (hs : List Hd) (w : World) (hv : RowAt hdE w v hs) :
    Calls Try.prog 57 #[v] w fun e w' => e = .returned (.bool (holdsB hs)) ∧ Below w.heap.size w w' := by
  obtain ⟨a, cap, rfl, hl⟩ := hv.shape
  have HV := hide hv
  have HFIN : Hid (holdsB hs = (hs.all holdOkB && ascB hs)) := rfl
  clear hv
  generalize hN : hs.length = N at *
  have HN := hide hN
  clear hN
  unfold maxLen at hl
  go_enter Try.func57, Try.ntmps57
  go_wp2_with fail
  go_loopw [7] (fun i wr => ∃ k : Nat, k ≤ N ∧ i = .int .i64 k ∧ (hs.take k).all holdOkB = true ∧ Below w.heap.size w wr) (fun i _ => N - (intOf i).toNat)
  case atStart => exact ⟨0, Nat.zero_le _, rfl, rfl, Below.refl _ _⟩
  case round =>
    obtain ⟨k, hk, rfl, hno, hb⟩ := hrel
    have HNO := hide hno
    have HB := hide hb
    clear hno hb
    by_cases hlt : k < N
    · obtain ⟨b, off, rfl⟩ := (unhide HV).some_of (by rw [unhide HN]; omega)
      obtain ⟨c0, c1, c2, c3⟩ := hd_cells ((unhide HV).kept (unhide HB)) (i := k) (by rw [unhide HN]; exact hlt)
      have hst := all_take_hd (D := hs) (p := holdOkB) (k := k) (by rw [unhide HN]; exact hlt)
      have HFL := hide (fun hp => all_hd_false (D := hs) (p := holdOkB) (k := k) (by rw [unhide HN]; exact hlt) hp)
      generalize hs.getD k Hd.z = x at *
      have HST := hide hst
      clear hst
      go_wp2_with fail
      refine (inForm_any x _).mono ?_
      rintro e w1 ⟨rfl, hb1⟩
      have hz1 := (unhide HB).size
      have HB1 : Hid (Below w.heap.size w w1) := ((unhide HB).alloc hz1 _).trans (hb1.mono (by simp; omega))
      clear hb1 c0 c1 c2 c3
      cases hm : holdOkB x
      · have HS2 : Hid (holdsB hs = false) := by show holdsB hs = false; rw [unhide HFIN, unhide HFL hm]; rfl
        clear hm
        go_wp2_with fail
        go_ret
        exact ⟨ret_bool (unhide HS2).symm, unhide HB1⟩
      · have HS2 : Hid ((hs.take (k + 1)).all holdOkB = true) := by show (hs.take (k + 1)).all holdOkB = true; rw [unhide HST, unhide HNO, hm]; rfl
        clear hm
        go_wp2_with fail
        go_roundw
        case rel => exact ⟨k + 1, hlt, by go_num, unhide HS2, unhide HB1⟩
        case measure => simp [intOf]; omega
    · have HAH : Hid (hs.all holdOkB = true) := by
        have := unhide HNO; rw [List.take_of_length_le (by rw [unhide HN]; omega)] at this; exact this
      have hnl : ¬ (k : Int) < (N : Int) := by omega
      go_wp2_with fail
      refine (ascends_any _ hs _ ((unhide HV).kept (unhide HB))).mono ?_
      rintro e w1 ⟨rfl, hb1⟩
      have HB1 := hide ((unhide HB).trans (hb1.mono (unhide HB).size))
      clear hb1
      go_wp2_with fail
      go_ret
      exact ⟨ret_bool (by rw [unhide HFIN, unhide HAH]; rfl), unhide HB1⟩

def heldOkB (H : List Hd) : Bool := H.all fun h => !(H.any (meetB h))

set_option maxRecDepth 100000 in
set_option maxHeartbeats 1000000 in
theorem heldOk_any (v : Value) (hs : List Hd) (w : World) (hv : RowAt hdE w v hs) :
    Calls Try.prog 58 #[v] w fun e w' => e = .returned (.bool (heldOkB hs)) ∧ Below w.heap.size w w' := by
  obtain ⟨a, cap, rfl, hl⟩ := hv.shape
  have HV := hide hv
  obtain ⟨p, hp⟩ : ∃ p, p = fun h => !(hs.any (meetB h)) := ⟨_, rfl⟩
  have HFIN : Hid (heldOkB hs = hs.all p) := by show heldOkB hs = hs.all p; rw [hp]; rfl
  have HP : Hid (∀ x, p x = !(hs.any (meetB x))) := by intro x; rw [hp]
  clear hv hp
  generalize hN : hs.length = N at *
  have HN := hide hN
  clear hN
  unfold maxLen at hl
  go_enter Try.func58, Try.ntmps58
  go_wp2_with fail
  go_loopw [7] (fun i wr => ∃ k : Nat, k ≤ N ∧ i = .int .i64 k ∧ (hs.take k).all p = true ∧ Below w.heap.size w wr) (fun i _ => N - (intOf i).toNat)
  case atStart => exact ⟨0, Nat.zero_le _, rfl, rfl, Below.refl _ _⟩
  case round =>
    obtain ⟨k, hk, rfl, hno, hb⟩ := hrel
    have HNO := hide hno
    have HB := hide hb
    clear hno hb
    by_cases hlt : k < N
    · obtain ⟨b, off, rfl⟩ := (unhide HV).some_of (by rw [unhide HN]; omega)
      obtain ⟨c0, c1, c2, c3⟩ := hd_cells ((unhide HV).kept (unhide HB)) (i := k) (by rw [unhide HN]; exact hlt)
      have hst := all_take_hd (D := hs) (p := p) (k := k) (by rw [unhide HN]; exact hlt)
      have HFL := hide (fun hp => all_hd_false (D := hs) (p := p) (k := k) (by rw [unhide HN]; exact hlt) hp)
      generalize hs.getD k Hd.z = x at *
      have HST := hide hst
      clear hst
      go_wp2_with fail
      refine (hasMeet_any x _ hs _ ((unhide HV).kept ((unhide HB).alloc (unhide HB).size _))).mono ?_
      rintro e w1 ⟨rfl, hb1⟩
      have hz1 := (unhide HB).size
      have HB1 : Hid (Below w.heap.size w w1) := ((unhide HB).alloc hz1 _).trans (hb1.mono (by simp; omega))
      clear hb1 c0 c1 c2 c3
      have hpx := unhide HP x
      cases hm : hs.any (meetB x)
      · have HS2 : Hid ((hs.take (k + 1)).all p = true) := by show (hs.take (k + 1)).all p = true; rw [unhide HST, unhide HNO, hpx, hm]; rfl
        clear hm hpx
        go_wp2_with fail
        go_roundw
        case rel => exact ⟨k + 1, hlt, by go_num, unhide HS2, unhide HB1⟩
        case measure => simp [intOf]; omega
      · have HS2 : Hid (heldOkB hs = false) := by show heldOkB hs = false; rw [unhide HFIN, unhide HFL (by rw [hpx, hm]; rfl)]
        clear hm hpx
        go_wp2_with fail
        go_ret
        exact ⟨ret_bool (unhide HS2).symm, unhide HB1⟩
    · have HAH : Hid (hs.all p = true) := by
        have := unhide HNO; rw [List.take_of_length_le (by rw [unhide HN]; omega)] at this; exact this
      have hnl : ¬ (k : Int) < (N : Int) := by omega
      go_wp2_with fail
      go_ret
      exact ⟨ret_bool (by rw [unhide HFIN, unhide HAH]), unhide HB⟩

def waitsOkB (W H : List Hd) : Bool := W.all fun h => !(h.firm || H.any (sameB h))

set_option maxRecDepth 100000 in
set_option maxHeartbeats 1000000 in
theorem waitsOk_any (v v' : Value) (W H : List Hd) (w : World) (hv : RowAt hdE w v W) (hv' : RowAt hdE w v' H) :
    Calls Try.prog 59 #[v, v'] w fun e w' => e = .returned (.bool (waitsOkB W H)) ∧ Below w.heap.size w w' := by
  obtain ⟨a, cap, rfl, hl⟩ := hv.shape
  obtain ⟨a', cap', rfl, hl'⟩ := hv'.shape
  have HV := hide hv
  have HV' := hide hv'
  obtain ⟨p, hp⟩ : ∃ p, p = fun h => !(h.firm || H.any (sameB h)) := ⟨_, rfl⟩
  have HFIN : Hid (waitsOkB W H = W.all p) := by show waitsOkB W H = W.all p; rw [hp]; rfl
  have HP : Hid (∀ x, p x = !(x.firm || H.any (sameB x))) := by intro x; rw [hp]
  clear hv hv' hp
  generalize hN : W.length = N at *
  have HN := hide hN
  clear hN
  generalize hM : H.length = M at *
  have HM := hide hM
  clear hM
  unfold maxLen at hl hl'
  go_enter Try.func59, Try.ntmps59
  go_wp2_with fail
  go_loopw [9] (fun i wr => ∃ k : Nat, k ≤ N ∧ i = .int .i64 k ∧ (W.take k).all p = true ∧ Below w.heap.size w wr) (fun i _ => N - (intOf i).toNat)
  case atStart => exact ⟨0, Nat.zero_le _, rfl, rfl, Below.refl _ _⟩
  case round =>
    obtain ⟨k, hk, rfl, hno, hb⟩ := hrel
    have HNO := hide hno
    have HB := hide hb
    clear hno hb
    by_cases hlt : k < N
    · obtain ⟨b, off, rfl⟩ := (unhide HV).some_of (by rw [unhide HN]; omega)
      obtain ⟨c0, c1, c2, c3⟩ := hd_cells ((unhide HV).kept (unhide HB)) (i := k) (by rw [unhide HN]; exact hlt)
      have hst := all_take_hd (D := W) (p := p) (k := k) (by rw [unhide HN]; exact hlt)
      have HFL := hide (fun hp => all_hd_false (D := W) (p := p) (k := k) (by rw [unhide HN]; exact hlt) hp)
      generalize W.getD k Hd.z = x at *
      have HST := hide hst
      clear hst
      have hz1 := (unhide HB).size
      obtain ⟨xs, xt, xsh, xf⟩ := x
      cases xf
      · go_wp2_with fail
        refine (hasSame_any ⟨xs, xt, xsh, false⟩ _ H _ ((unhide HV').kept ((unhide HB).alloc hz1 _))).mono ?_
        rintro e w1 ⟨rfl, hb1⟩
        have HB1 : Hid (Below w.heap.size w w1) := ((unhide HB).alloc hz1 _).trans (hb1.mono (by simp; omega))
        clear hb1 c0 c1 c2 c3
        have hpx := unhide HP ⟨xs, xt, xsh, false⟩
        cases hm : H.any (sameB ⟨xs, xt, xsh, false⟩)
        · have HS2 : Hid ((W.take (k + 1)).all p = true) := by show (W.take (k + 1)).all p = true; rw [unhide HST, unhide HNO, hpx, hm]; rfl
          clear hm hpx
          go_wp2_with fail
          go_roundw
          case rel => exact ⟨k + 1, hlt, by go_num, unhide HS2, unhide HB1⟩
          case measure => simp [intOf]; omega
        · have HS2 : Hid (waitsOkB W H = false) := by show waitsOkB W H = false; rw [unhide HFIN, unhide HFL (by rw [hpx, hm]; rfl)]
          clear hm hpx
          go_wp2_with fail
          go_ret
          exact ⟨ret_bool (unhide HS2).symm, unhide HB1⟩
      · have hpx := unhide HP ⟨xs, xt, xsh, true⟩
        have HS2 : Hid (waitsOkB W H = false) := by show waitsOkB W H = false; rw [unhide HFIN, unhide HFL (by rw [hpx]; rfl)]
        clear hpx
        go_wp2_with fail
        go_ret
        exact ⟨ret_bool (unhide HS2).symm, (unhide HB).alloc hz1 _⟩
    · have HAH : Hid (W.all p = true) := by
        have := unhide HNO; rw [List.take_of_length_le (by rw [unhide HN]; omega)] at this; exact this
      have hnl : ¬ (k : Int) < (N : Int) := by omega
      go_wp2_with fail
      go_ret
      exact ⟨ret_bool (by rw [unhide HFIN, unhide HAH]), unhide HB⟩

end Go.Proofs.Ytoojnhodjkpecaa
