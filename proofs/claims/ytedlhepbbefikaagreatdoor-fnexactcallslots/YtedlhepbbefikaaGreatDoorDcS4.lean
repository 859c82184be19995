/- Numbers read: the specification's way. -/
import Derived.Test.YtedlhepbbefikaaGreatDoorDcS3
namespace Go.Proofs.YtedlhepbbefikaaGreatDoor
open Go.RowKit

theorem numV_short {l : List UInt8} (h : (magL l).length < 1 ∨ 5 < (magL l).length) : numV l = 0 := by unfold numV; rw [if_pos h]
theorem numV_bad {l : List UInt8} (h : figB (magL l) = false) : numV l = 0 := by unfold numV; split <;> simp [h]
theorem numV_neg {l : List UInt8} (h0 : ¬ ((magL l).length < 1 ∨ 5 < (magL l).length)) (h : figB (magL l) = true) (hn : l.head? = some 45) : numV l = -figV (magL l) := by unfold numV; rw [if_neg h0, if_pos h, if_pos hn]
theorem numV_pos {l : List UInt8} (h0 : ¬ ((magL l).length < 1 ∨ 5 < (magL l).length)) (h : figB (magL l) = true) (hn : ¬ l.head? = some 45) : numV l = figV (magL l) := by unfold numV; rw [if_neg h0, if_pos h, if_neg hn]

/-- A number, and whether it was written so. -/
def NumRes (e : Ending) (n : Int) : Prop := ∃ b : Bool, e = .returned (.tuple #[.int .i64 n, .bool b])
theorem NumRes.mk {n m : Int} (b : Bool) (h : n = m) : NumRes (.returned (.tuple #[.int .i64 n, .bool b])) m := ⟨b, by rw [h]⟩

set_option maxRecDepth 100000 in
set_option maxHeartbeats 1000000 in
theorem l1Num_any (S : ByteArray) (w : World) (hS : S.size ≤ 1000) :
    Calls Tryz.prog 37 #[.string S] w fun e w' => NumRes e (numV S.data.toList) ∧ Below w.heap.size w w' := by
  have HINT := hide (fun n ww h0 h1 => l1Int_any n ww h0 h1)
  have hlen : S.data.toList.length = S.size := by simp
  by_cases hs0 : S.size = 0
  · have hnil : S.data.toList = [] := List.eq_nil_of_length_eq_zero (by omega)
    have HV : Hid (numV S.data.toList = 0) := by rw [hnil]; rfl
    have hd : ¬ (0 : Int) < (S.size : Int) := by omega
    have hd2 : (S.size : Int) < 1 := by omega
    clear hnil hlen
    go_enter Tryz.func37, Tryz.ntmps37
    go_wp2_with fail
    go_ret2
    exact ⟨NumRes.mk false (unhide HV).symm, Below.refl _ _⟩
  have hp : (0 : Int) < (S.size : Int) := by omega
  have hpN : 0 < S.size := by omega
  have hat := getElem_list S 0 hpN
  have hhead : S.data.toList.head? = some S[0] := by rw [List.head?_eq_getElem?]; exact hat
  by_cases hneg : S[0] = 45
  · have hcmp : (S[0].toNat : Int) = 45 := by rw [hneg]; rfl
    have hmag : magL S.data.toList = (S.extract 1 S.size).data.toList := by
      unfold magL; rw [hhead, hneg, if_pos rfl, extract_list]
      simp only
      rw [List.drop_one, List.take_of_length_le (by simp)]
    have hh : S.data.toList.head? = some 45 := by rw [hhead, hneg]
    have htl : (S.extract 1 S.size).data.toList.length = S.size - 1 := by rw [extract_list]; simp
    have hts : (S.extract 1 S.size).size = S.size - 1 := by rw [ByteArray.size_extract]; omega
    have hs1 : (1 : Int) ≤ (S.size : Int) := by omega
    have hs1N : 1 ≤ S.size := by omega
    have HH := hide hh
    have HMAG := hide hmag
    have HTS := hide hts
    have HTL := hide htl
    clear hmag hh hhead hat hlen hts htl hneg
    by_cases hlo : S.size - 1 < 1
    · have HV := hide (numV_short (l := S.data.toList) (by rw [unhide HMAG, unhide HTL]; exact .inl hlo))
      have hlo' : ((S.size - 1 : Nat) : Int) < 1 := by omega
      go_enter Tryz.func37, Tryz.ntmps37
      go_wp2_with fail
      go_ret2
      exact ⟨NumRes.mk false (unhide HV).symm, Below.refl _ _⟩
    have hlo' : ¬ ((S.size - 1 : Nat) : Int) < 1 := by omega
    by_cases hhi : 5 < S.size - 1
    · have HV := hide (numV_short (l := S.data.toList) (by rw [unhide HMAG, unhide HTL]; exact .inr hhi))
      have hhi' : (5 : Int) < ((S.size - 1 : Nat) : Int) := by omega
      go_enter Tryz.func37, Tryz.ntmps37
      go_wp2_with fail
      go_ret2
      exact ⟨NumRes.mk false (unhide HV).symm, Below.refl _ _⟩
    have hhi' : ¬ (5 : Int) < ((S.size - 1 : Nat) : Int) := by omega
    go_enter Tryz.func37, Tryz.ntmps37
    go_wp2_with fail
    generalize S.extract 1 S.size = T at *
    have hT5 : T.size ≤ 5 := by rw [unhide HTS]; omega
    have hT1 : 1 ≤ T.size := by rw [unhide HTS]; omega
    rw [← unhide HTS] at HTL
    go_loopw [6, 7] (fun n i wr => ∃ k : Nat, k ≤ T.size ∧ i = .int .i64 k ∧ n = .int .i64 (figV (T.data.toList.take k)) ∧ figB (T.data.toList.take k) = true ∧ wr = w) (fun _ i _ => T.size - (intOf i).toNat)
    case atStart => exact ⟨0, Nat.zero_le _, rfl, rfl, rfl, rfl⟩
    case round =>
      obtain ⟨k, hk, rfl, rfl, hfb, rfl⟩ := hrel
      have htk : (T.data.toList.take k).length ≤ 5 := by rw [List.length_take]; omega
      have hbd := figV_bd hfb htk
      have HFB := hide hfb
      clear hfb htk
      by_cases hlt : k < T.size
      · have hat := getElem_list T k hlt
        have hkI : (k : Int) < (T.size : Int) := by omega
        have htke := take_snocL hat
        by_cases hd : 48 ≤ T[k].toNat ∧ T[k].toNat ≤ 57
        · have h1 : ¬ (T[k].toNat : Int) < 48 := by omega
          have h2 : ¬ (57 : Int) < (T[k].toNat : Int) := by omega
          have hw : IntKind.u8.wrap ((T[k].toNat : Int) - 48) = (T[k].toNat : Int) - 48 := by show ((T[k].toNat : Int) - 48) % (256 : Int) = _; omega
          have HB2 : Hid (figB (T.data.toList.take (k + 1)) = true) := by show _ = true; rw [htke, figB_snoc, unhide HFB]; simp; omega
          have HV2 : Hid (figV (T.data.toList.take (k + 1)) = figV (T.data.toList.take k) * 10 + ((T[k].toNat : Int) - 48)) := by show _ = _; rw [htke, figV_snoc]
          generalize figV (T.data.toList.take k) = F at *
          clear htke hat
          generalize hx : T[k].toNat = x at *
          have hx2 : (x : Int) - 48 ≤ 9 := by omega
          have hx3 : 0 ≤ (x : Int) - 48 := by omega
          clear hd
          go_wp2_with fail
          go_roundw
          case rel => exact ⟨k + 1, hlt, by go_num, by rw [unhide HV2], unhide HB2, by first | rfl | trivial⟩
          case measure => simp [intOf]; omega
        · have HV := hide (numV_bad (l := S.data.toList) (by rw [unhide HMAG]; exact figB_no hat (by omega)))
          by_cases h1 : (T[k].toNat : Int) < 48
          · clear hd
            go_wp2_with fail
            go_ret2
            exact ⟨NumRes.mk false (unhide HV).symm, Below.refl _ _⟩
          · have h2 : (57 : Int) < (T[k].toNat : Int) := by omega
            clear hd
            go_wp2_with fail
            go_ret2
            exact ⟨NumRes.mk false (unhide HV).symm, Below.refl _ _⟩
      · obtain rfl : k = T.size := by omega
        have htk : T.data.toList.take T.size = T.data.toList := List.take_of_length_le (by rw [unhide HTL]; exact Nat.le_refl _)
        have HV : Hid (numV S.data.toList = -figV (T.data.toList.take T.size)) := (numV_neg (l := S.data.toList) (by rw [unhide HMAG, unhide HTL]; omega) (by rw [unhide HMAG, ← htk]; exact unhide HFB) (unhide HH)).trans (by rw [unhide HMAG, htk])
        generalize figV (T.data.toList.take T.size) = F at *
        clear htk
        go_wp2_with fail
        refine (unhide HINT _ _ (by omega) (by omega)).mono ?_; rintro e w1 ⟨rfl, hb⟩
        go_wp2_with fail
        go_ret2
        exact ⟨NumRes.mk _ (unhide HV).symm, hb⟩
  · have hcmp : ¬ (S[0].toNat : Int) = 45 := fun e => hneg (UInt8.toNat_inj.1 (by show S[0].toNat = 45; omega))
    have hmag : magL S.data.toList = S.data.toList := by
      unfold magL; rw [hhead, if_neg (by intro e; injection e with e; exact hneg e)]
    have hh : ¬ S.data.toList.head? = some 45 := by rw [hhead]; intro e; injection e with e; exact hneg e
    have HH := hide hh
    have HMAG := hide hmag
    have HTL := hide hlen
    clear hmag hh hhead hat hlen hneg
    by_cases hlo : S.size < 1
    · omega
    by_cases hhi : 5 < S.size
    · have HV := hide (numV_short (l := S.data.toList) (by rw [unhide HMAG, unhide HTL]; exact .inr hhi))
      have hhi' : (5 : Int) < (S.size : Int) := by omega
      go_enter Tryz.func37, Tryz.ntmps37
      go_wp2_with fail
      go_ret2
      exact ⟨NumRes.mk false (unhide HV).symm, Below.refl _ _⟩
    have hhi' : ¬ (5 : Int) < (S.size : Int) := by omega
    have hlo' : ¬ (S.size : Int) < 1 := by omega
    go_enter Tryz.func37, Tryz.ntmps37
    go_wp2_with fail
    have hT5 : S.size ≤ 5 := by omega
    have hT1 : 1 ≤ S.size := by omega
    go_loopw [6, 7] (fun n i wr => ∃ k : Nat, k ≤ S.size ∧ i = .int .i64 k ∧ n = .int .i64 (figV (S.data.toList.take k)) ∧ figB (S.data.toList.take k) = true ∧ wr = w) (fun _ i _ => S.size - (intOf i).toNat)
    case atStart => exact ⟨0, Nat.zero_le _, rfl, rfl, rfl, rfl⟩
    case round =>
      obtain ⟨k, hk, rfl, rfl, hfb, rfl⟩ := hrel
      have htk : (S.data.toList.take k).length ≤ 5 := by rw [List.length_take]; omega
      have hbd := figV_bd hfb htk
      have HFB := hide hfb
      clear hfb htk
      by_cases hlt : k < S.size
      · have hat := getElem_list S k hlt
        have hkI : (k : Int) < (S.size : Int) := by omega
        have htke := take_snocL hat
        by_cases hd : 48 ≤ S[k].toNat ∧ S[k].toNat ≤ 57
        · have h1 : ¬ (S[k].toNat : Int) < 48 := by omega
          have h2 : ¬ (57 : Int) < (S[k].toNat : Int) := by omega
          have hw : IntKind.u8.wrap ((S[k].toNat : Int) - 48) = (S[k].toNat : Int) - 48 := by show ((S[k].toNat : Int) - 48) % (256 : Int) = _; omega
          have HB2 : Hid (figB (S.data.toList.take (k + 1)) = true) := by show _ = true; rw [htke, figB_snoc, unhide HFB]; simp; omega
          have HV2 : Hid (figV (S.data.toList.take (k + 1)) = figV (S.data.toList.take k) * 10 + ((S[k].toNat : Int) - 48)) := by show _ = _; rw [htke, figV_snoc]
          generalize figV (S.data.toList.take k) = F at *
          clear htke hat
          generalize hx : S[k].toNat = x at *
          have hx2 : (x : Int) - 48 ≤ 9 := by omega
          have hx3 : 0 ≤ (x : Int) - 48 := by omega
          clear hd
          go_wp2_with fail
          go_roundw
          case rel => exact ⟨k + 1, hlt, by go_num, by rw [unhide HV2], unhide HB2, by first | rfl | trivial⟩
          case measure => simp [intOf]; omega
        · have HV := hide (numV_bad (l := S.data.toList) (by rw [unhide HMAG]; exact figB_no hat (by omega)))
          by_cases h1 : (S[k].toNat : Int) < 48
          · clear hd
            go_wp2_with fail
            go_ret2
            exact ⟨NumRes.mk false (unhide HV).symm, Below.refl _ _⟩
          · have h2 : (57 : Int) < (S[k].toNat : Int) := by omega
            clear hd
            go_wp2_with fail
            go_ret2
            exact ⟨NumRes.mk false (unhide HV).symm, Below.refl _ _⟩
      · obtain rfl : k = S.size := by omega
        have htk : S.data.toList.take S.size = S.data.toList := List.take_of_length_le (by rw [unhide HTL]; exact Nat.le_refl _)
        have HV : Hid (numV S.data.toList = figV (S.data.toList.take S.size)) := (numV_pos (l := S.data.toList) (by rw [unhide HMAG, unhide HTL]; omega) (by rw [unhide HMAG, ← htk]; exact unhide HFB) (unhide HH)).trans (by rw [unhide HMAG, htk])
        generalize figV (S.data.toList.take S.size) = F at *
        clear htk
        go_wp2_with fail
        refine (unhide HINT _ _ (by omega) (by omega)).mono ?_; rintro e w1 ⟨rfl, hb⟩
        go_wp2_with fail
        go_ret2
        exact ⟨NumRes.mk _ (unhide HV).symm, hb⟩

end Go.Proofs.YtedlhepbbefikaaGreatDoor
