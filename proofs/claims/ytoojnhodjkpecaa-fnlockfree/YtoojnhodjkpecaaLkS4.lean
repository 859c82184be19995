/- The specification says whether one may hold a lock. -/
import Derived.Test.YtoojnhodjkpecaaLkS3
namespace Go.Proofs.Ytoojnhodjkpecaa
open Go.RowKit

theorem all_take_hd {D : List Hd} {p : Hd → Bool} {k : Nat} (h : k < D.length) : (D.take (k + 1)).all p = ((D.take k).all p && p (D.getD k Hd.z)) := by
  rw [List.take_succ_eq_append_getElem h, List.all_append]; simp [List.getD, h]
theorem all_hd_false {D : List Hd} {p : Hd → Bool} {k : Nat} (h : k < D.length) (hp : p (D.getD k Hd.z) = false) : D.all p = false := by
  rw [List.all_eq_false]
  exact ⟨D[k], List.getElem_mem h, by simpa [List.getD, h] using hp⟩

theorem Bx.four {w : World} {g : Nat} {T : TypeId} {a b c d : Value} (h : Bx w g T #[a, b, c, d]) : w.cell? ⟨g, 0, none⟩ = some a ∧ w.cell? ⟨g, 1, none⟩ = some b ∧ w.cell? ⟨g, 2, none⟩ = some c ∧ w.cell? ⟨g, 3, none⟩ = some d := ⟨h.cell 0, h.cell 1, h.cell 2, h.cell 3⟩

set_option maxRecDepth 100000 in
set_option maxHeartbeats 2000000 in
theorem may_any (l : Lk) (a b : Value) (h : Hd) (w : World) (hv : LkAt w l a b) :
    Calls Try.prog 46 #[lkV l a b, hdV h] w fun e w' => e = .returned (.bool (mayB l h)) ∧ Below w.heap.size w w' := by
  obtain ⟨slot, H, W⟩ := l
  obtain ⟨hvh, hvw⟩ := hv
  obtain ⟨hh, hhe⟩ : ∃ hh, hh = h := ⟨_, rfl⟩
  rw [← hhe]
  obtain ⟨s, t, sh, fm⟩ := h
  have hvv : hdV hh = .agg #[.int .i64 s, .int .i64 t, .bool sh, .bool fm] := by rw [hhe]; rfl
  have hss : hh.stamp = s := by rw [hhe]
  have HMT : Hid (∀ (x : Hd) (ww : World), Calls Try.prog 45 #[.agg #[.int .i64 x.stamp, .int .i64 x.try_, .bool x.share, .bool x.firm], .agg #[.int .i64 s, .int .i64 t, .bool sh, .bool fm]] ww fun e w' => e = .returned (.bool (meetB x hh)) ∧ Below ww.heap.size ww w') := fun x ww => by
    have := meet_any x hh ww
    rw [hvv] at this; exact this
  have HSS := hide hss
  have HMY : Hid (mayB ⟨slot, H, W⟩ hh = (H.all (fun x => !meetB x hh) && W.all (fun x => !(decide (x.stamp < hh.stamp) && meetB x hh)))) := rfl
  rw [hvv]
  simp only [lkV] at *
  clear hvv hss hhe
  obtain ⟨ah, ch, rfl, hlh⟩ := hvh.shape
  obtain ⟨aw, cw, rfl, hlw⟩ := hvw.shape
  have HH := hide hvh
  have HW := hide hvw
  unfold maxLen at hlh hlw
  clear hvh hvw
  generalize hN : H.length = N at *
  have HN := hide hN
  generalize hM : W.length = M at *
  have HM := hide hM
  clear hN hM
  go_enter Try.func46, Try.ntmps46
  go_wp2_with fail
  go_loopw [5] (fun i wr => ∃ k : Nat, k ≤ N ∧ i = .int .i64 k ∧ (H.take k).all (fun x => !meetB x hh) = true ∧ Bx wr w.heap.size 25 #[.int .i64 slot, .slice ah N ch, .slice aw M cw] ∧ Bx wr (w.heap.size + 1) 27 #[.int .i64 s, .int .i64 t, .bool sh, .bool fm] ∧ Below w.heap.size w wr) (fun i _ => N - (intOf i).toNat)
  case atStart =>
    refine ⟨0, Nat.zero_le _, rfl, rfl, (Bx.made w _ _).allocK, ?_, ((Below.refl _ _).alloc (Nat.le_refl _) _).alloc (by simp) _⟩
    have := Bx.made (w.alloc (.cells #[.int .i64 slot, .slice ah N ch, .slice aw M cw] 25)) 27 #[.int .i64 s, .int .i64 t, .bool sh, .bool fm]
    rwa [show (w.alloc (.cells #[.int .i64 slot, .slice ah N ch, .slice aw M cw] 25)).heap.size = w.heap.size + 1 by simp] at this
  case round =>
    obtain ⟨k, hk, rfl, hall, hbx, hbh, hb⟩ := hrel
    have HALL := hide hall
    have HBX := hide hbx
    have HBH := hide hbh
    have HBR := hide hb
    obtain ⟨q0, q1, q2⟩ := hbx.three
    obtain ⟨p0, p1, p2, p3⟩ := hbh.four
    have hz := hbh.lt
    clear hall hbx hbh hb
    by_cases hlt : k < N
    · obtain ⟨bb, off, rfl⟩ := (unhide HH).some_of (by rw [unhide HN]; omega)
      obtain ⟨c0, c1, c2, c3⟩ := hd_cells ((unhide HH).kept (unhide HBR)) (i := k) (by rw [unhide HN]; exact hlt)
      have hst := all_take_hd (D := H) (p := fun x => !meetB x hh) (k := k) (by rw [unhide HN]; exact hlt)
      have HFL := hide (fun hp => all_hd_false (D := H) (p := fun x => !meetB x hh) (k := k) (by rw [unhide HN]; exact hlt) hp)
      generalize H.getD k Hd.z = x at *
      have HST := hide hst
      clear hst
      have hkI : (k : Int) < (N : Int) := by omega
      have hk0' : (0 : Int) ≤ (k : Int) := by omega
      go_wp2_with fail
      go_region_held3 (fun w' => w'.cell? ⟨w.heap.size, 1, none⟩ = some (.slice (some ⟨bb, off, none⟩) N ch) ∧ w'.cell? ⟨bb, off + k * 4, none⟩ = some (.int .i64 x.stamp) ∧ w'.cell? ⟨bb, off + k * 4 + 1, none⟩ = some (.int .i64 x.try_) ∧ w'.cell? ⟨bb, off + k * 4 + 2, none⟩ = some (.bool x.share) ∧ w'.cell? ⟨bb, off + k * 4 + 3, none⟩ = some (.bool x.firm) ∧ w'.cell? ⟨w.heap.size + 1, 0, none⟩ = some (.int .i64 s) ∧ w'.cell? ⟨w.heap.size + 1, 1, none⟩ = some (.int .i64 t) ∧ w'.cell? ⟨w.heap.size + 1, 2, none⟩ = some (.bool sh) ∧ w'.cell? ⟨w.heap.size + 1, 3, none⟩ = some (.bool fm)) (first | go_keep | (go_split_ands; refine ⟨?_, ?_, ?_, ?_, ?_, ?_, ?_, ?_, ?_⟩ <;> exact cell_kept hbm (by assumption)))
        ((go_at_call 45; refine (unhide HMT x _).mono ?_; rintro e wm ⟨rfl, hbm⟩))
      have hbr : Below wr.heap.size wr wm := ((Below.refl _ _).drew).trans hbm
      have HBX2 := hide ((unhide HBX).kept hbr)
      have HBH2 := hide ((unhide HBH).kept hbr)
      have HB2 := hide ((unhide HBR).trans (hbr.mono (unhide HBR).size))
      clear hbr hbm c0 c1 c2 c3 q0 q1 q2 p0 p1 p2 p3
      cases hm : meetB x hh
      · have HS2 : Hid ((H.take (k + 1)).all (fun x => !meetB x hh) = true) := by show (H.take (k + 1)).all (fun x => !meetB x hh) = true; rw [unhide HST, unhide HALL, hm]; rfl
        clear hm
        go_wp2_with fail
        go_roundw
        case rel => exact ⟨k + 1, hlt, by go_num, unhide HS2, unhide HBX2, unhide HBH2, unhide HB2⟩
        case measure => simp [intOf]; omega
      · have HS2 : Hid (mayB ⟨slot, H, W⟩ hh = false) := by show mayB ⟨slot, H, W⟩ hh = false; rw [unhide HMY, unhide HFL (by rw [hm]; rfl)]; rfl
        clear hm
        go_wp2_with fail
        go_ret
        exact ⟨ret_bool (unhide HS2).symm, unhide HB2⟩
    · have hkN : k = N := by omega
      have HAH : Hid (H.all (fun x => !meetB x hh) = true) := by
        have := unhide HALL; rw [List.take_of_length_le (by rw [unhide HN]; omega)] at this; exact this
      have hkn : ¬ (k : Int) < (N : Int) := by omega
      clear HALL hkN hlt
      go_wp2_with fail
      go_loopw [6] (fun i wr => ∃ k : Nat, k ≤ M ∧ i = .int .i64 k ∧ (W.take k).all (fun x => !(decide (x.stamp < hh.stamp) && meetB x hh)) = true ∧ Bx wr w.heap.size 25 #[.int .i64 slot, .slice ah N ch, .slice aw M cw] ∧ Bx wr (w.heap.size + 1) 27 #[.int .i64 s, .int .i64 t, .bool sh, .bool fm] ∧ Below w.heap.size w wr) (fun i _ => M - (intOf i).toNat)
      case atStart => exact ⟨0, Nat.zero_le _, rfl, rfl, unhide HBX, unhide HBH, unhide HBR⟩
      case round =>
        clear q0 q1 q2 p0 p1 p2 p3 HBX HBH HBR
        obtain ⟨k, hk, rfl, hall, hbx, hbh, hb⟩ := hrel
        have HALL := hide hall
        have HBX := hide hbx
        have HBH := hide hbh
        have HBR := hide hb
        obtain ⟨q0, q1, q2⟩ := hbx.three
        obtain ⟨p0, p1, p2, p3⟩ := hbh.four
        have hz := hbh.lt
        clear hall hbx hbh hb
        by_cases hlt : k < M
        · obtain ⟨bb, off, rfl⟩ := (unhide HW).some_of (by rw [unhide HM]; omega)
          obtain ⟨c0, c1, c2, c3⟩ := hd_cells ((unhide HW).kept (unhide HBR)) (i := k) (by rw [unhide HM]; exact hlt)
          have hst := all_take_hd (D := W) (p := fun x => !(decide (x.stamp < hh.stamp) && meetB x hh)) (k := k) (by rw [unhide HM]; exact hlt)
          have HFL := hide (fun hp => all_hd_false (D := W) (p := fun x => !(decide (x.stamp < hh.stamp) && meetB x hh)) (k := k) (by rw [unhide HM]; exact hlt) hp)
          generalize W.getD k Hd.z = x at *
          have HST := hide hst
          clear hst
          have hkI : (k : Int) < (M : Int) := by omega
          have hk0' : (0 : Int) ≤ (k : Int) := by omega
          by_cases hel : x.stamp < s
          · have hed : decide (x.stamp < s) = true := by simpa using hel
            have HEL : Hid (decide (x.stamp < hh.stamp) = true) := by show decide (x.stamp < hh.stamp) = true; rw [unhide HSS]; exact hed
            clear hel
            go_wp2_with fail
            go_region_held3 (fun w' => w'.cell? ⟨w.heap.size, 2, none⟩ = some (.slice (some ⟨bb, off, none⟩) M cw) ∧ w'.cell? ⟨bb, off + k * 4, none⟩ = some (.int .i64 x.stamp) ∧ w'.cell? ⟨bb, off + k * 4 + 1, none⟩ = some (.int .i64 x.try_) ∧ w'.cell? ⟨bb, off + k * 4 + 2, none⟩ = some (.bool x.share) ∧ w'.cell? ⟨bb, off + k * 4 + 3, none⟩ = some (.bool x.firm) ∧ w'.cell? ⟨w.heap.size + 1, 0, none⟩ = some (.int .i64 s) ∧ w'.cell? ⟨w.heap.size + 1, 1, none⟩ = some (.int .i64 t) ∧ w'.cell? ⟨w.heap.size + 1, 2, none⟩ = some (.bool sh) ∧ w'.cell? ⟨w.heap.size + 1, 3, none⟩ = some (.bool fm)) (first | go_keep | (go_split_ands; refine ⟨?_, ?_, ?_, ?_, ?_, ?_, ?_, ?_, ?_⟩ <;> exact cell_kept hbm (by assumption)))
              ((go_at_call 45; refine (unhide HMT x _).mono ?_; rintro e wm ⟨rfl, hbm⟩))
            have hbr : Below wr.heap.size wr wm := ((Below.refl _ _).drew).trans hbm
            have HBX2 := hide ((unhide HBX).kept hbr)
            have HBH2 := hide ((unhide HBH).kept hbr)
            have HB2 := hide ((unhide HBR).trans (hbr.mono (unhide HBR).size))
            clear hbr hbm c0 c1 c2 c3 q0 q1 q2 p0 p1 p2 p3
            cases hm : meetB x hh
            · have HS2 : Hid ((W.take (k + 1)).all (fun x => !(decide (x.stamp < hh.stamp) && meetB x hh)) = true) := by show (W.take (k + 1)).all (fun x => !(decide (x.stamp < hh.stamp) && meetB x hh)) = true; rw [unhide HST, unhide HALL, hm]; simp
              clear hm
              go_wp2_with fail
              go_roundw
              case rel => exact ⟨k + 1, hlt, by go_num, unhide HS2, unhide HBX2, unhide HBH2, unhide HB2⟩
              case measure => simp [intOf]; omega
            · have HS2 : Hid (mayB ⟨slot, H, W⟩ hh = false) := by show mayB ⟨slot, H, W⟩ hh = false; rw [unhide HMY, unhide HFL (by rw [hm, unhide HEL]; rfl)]; simp
              clear hm
              go_wp2_with fail
              go_ret
              exact ⟨ret_bool (unhide HS2).symm, unhide HB2⟩
          · have hed : decide (x.stamp < s) = false := by simpa using hel
            have HEL : Hid (decide (x.stamp < hh.stamp) = false) := by show decide (x.stamp < hh.stamp) = false; rw [unhide HSS]; exact hed
            have HS2 : Hid ((W.take (k + 1)).all (fun x => !(decide (x.stamp < hh.stamp) && meetB x hh)) = true) := by show (W.take (k + 1)).all (fun x => !(decide (x.stamp < hh.stamp) && meetB x hh)) = true; rw [unhide HST, unhide HALL, unhide HEL]; rfl
            clear hel
            go_wp2_with fail
            go_quiet (fail)
            rename Nat => nq
            have hbr : Below wr.heap.size wr (wr.drewN nq) := below_drewN (Below.refl _ _) nq
            have HBX2 := hide ((unhide HBX).kept hbr)
            have HBH2 := hide ((unhide HBH).kept hbr)
            have HB2 := hide ((unhide HBR).trans (hbr.mono (unhide HBR).size))
            clear hbr
            go_wp2_with fail
            go_roundw
            case rel => exact ⟨k + 1, hlt, by go_num, unhide HS2, unhide HBX2, unhide HBH2, unhide HB2⟩
            case measure => simp [intOf]; omega
        · obtain rfl : k = M := by omega
          have HS2 : Hid (mayB ⟨slot, H, W⟩ hh = true) := by
            have h1 := unhide HALL; rw [List.take_of_length_le (by rw [unhide HM]; omega)] at h1
            show mayB ⟨slot, H, W⟩ hh = true; rw [unhide HMY, unhide HAH, h1]; rfl
          go_wp2_with fail
          go_ret
          exact ⟨ret_bool (unhide HS2).symm, unhide HBR⟩

end Go.Proofs.Ytoojnhodjkpecaa
