/- Deals written: the specification's way. -/
import Derived.Test.YtedlhepbbefikaaGreatDoorDcS4
import Derived.Test.YtedlhepbbefikaaGreatDoorDcM
import Derived.Deep.CutRange
import Derived.Deep.RegionHeld3
namespace Go.Proofs.YtedlhepbbefikaaGreatDoor
open Go.RowKit

/-- A text as a string. -/
def bsL (l : List UInt8) : ByteArray := ⟨l.toArray⟩
theorem bsL_size (l : List UInt8) : (bsL l).size = l.length := by simp [bsL, ByteArray.size]
theorem bsL_app (a b : List UInt8) : bsL a ++ bsL b = bsL (a ++ b) := by apply ByteArray.ext; simp [bsL]
theorem decS_bs (n : Nat) : decS n = bsL (Lib.itoa n) := by unfold decS bsL; rw [itoa_pos (by omega)]; simp
theorem intS_bs (n : Int) : intS n = bsL (Lib.itoa n) := rfl
theorem writeL_step {ss : List St} {k : Nat} (h : k < ss.length) : writeL (ss.take (k + 1)) = writeL (ss.take k) ++ stL (ss.getD k St.z) := by
  rw [take_succ_getD ss St.z k h, writeL, List.flatMap_append]; simp [writeL]
theorem writeL_len {D : List St} (h : D.all stOk = true) : (writeL D).length ≤ 19 * D.length := by
  induction D with
  | nil => simp [writeL]
  | cons s D ih =>
    rw [List.all_cons, Bool.and_eq_true] at h
    have h1 := stL_len h.1
    have h2 := ih h.2
    have e : writeL (s :: D) = stL s ++ writeL D := by simp [writeL]
    rw [e, List.length_append, List.length_cons]; omega
theorem all_take {D : List St} (h : D.all stOk = true) (k : Nat) : (D.take k).all stOk = true := by
  rw [List.all_eq_true] at h ⊢; exact fun x hx => h x (List.mem_of_mem_take hx)

/-- What DealWrite answers. -/
def wrL (ss : List St) : List UInt8 := if dealOk ss = true then writeL ss else []

set_option maxRecDepth 100000 in
set_option maxHeartbeats 4000000 in
theorem sWrite_any (v : Value) (ss : List St) (w : World) (hv : StsAt w v ss) :
    Calls Tryz.prog 38 #[v] w fun e w' => e = .returned (.string (bsL (wrL ss))) ∧ Below w.heap.size w w' := by
  have HOK := hide (specDealOk_any v ss w hv)
  have HDEC := hide (fun n ww h => l6Dec_any 2 n ww h (by omega))
  have HINT := hide (fun n ww h0 h1 => l1Int_any n ww h0 h1)
  cases hok : dealOk ss
  · have HW : Hid (wrL ss = []) := by unfold wrL; rw [hok]; rfl
    obtain ⟨a, cap, rfl, h1, h2, h3⟩ := hv
    clear h3
    generalize hN : ss.length = N at *
    clear hN
    rw [hok] at HOK
    clear hok
    go_enter Tryz.func38, Tryz.ntmps38
    go_wp2_with fail
    refine (unhide HOK).mono ?_; rintro e w1 ⟨rfl, hb1⟩
    go_wp2_with fail
    go_ret
    exact ⟨ret_val (by rw [unhide HW]; rfl), hb1⟩
  have HW : Hid (wrL ss = writeL ss) := by unfold wrL; rw [hok]; rfl
  have hall := dealOk_all hok
  have hlen := dealOk_num hok
  rw [hok] at HOK
  obtain ⟨a, cap, rfl, h1, h2, h3⟩ := hv
  have HST := hide (fun k hk => List.all_eq_true.1 hall (ss.getD k St.z) (by rw [List.getD_eq_getElem?_getD, List.getElem?_eq_getElem hk]; exact List.getElem_mem hk))
  have HWL := hide (fun k => writeL_len (all_take hall k))
  have HWS := hide (fun k hk => writeL_step (ss := ss) (k := k) hk)
  obtain ⟨b, off, rfl, hc⟩ : ∃ b off, a = some ⟨b, off, none⟩ ∧ StCells w b off ss.length ss := by
    rcases h3 with h3 | h3
    · subst h3; simp at hlen
    · exact h3
  generalize hN : ss.length = N at *
  have HN := hide hN
  have HC := hide hc
  unfold maxLen at h2
  clear hN hok hall h3 hc
  go_enter Tryz.func38, Tryz.ntmps38
  go_wp2_with fail
  refine (unhide HOK).mono ?_; rintro e w1 ⟨rfl, hb1⟩
  have HB1 := hide hb1
  clear hb1
  go_wp2_with fail
  go_loopw [3, 4] (fun t i wr => ∃ k : Nat, k ≤ N ∧ i = .int .i64 k ∧ t = .string (bsL (writeL (ss.take k))) ∧ Below w.heap.size w wr) (fun _ i _ => N - (intOf i).toNat)
  case atStart => exact ⟨0, Nat.zero_le _, rfl, rfl, unhide HB1⟩
  case round =>
    obtain ⟨k, hk, rfl, rfl, hb⟩ := hrel
    have HB := hide hb
    by_cases hlt : k < N
    · obtain ⟨c0, c1, c2⟩ := ((unhide HC).kept hb) k hlt
      have hst := unhide HST k hlt
      have hws := unhide HWS k hlt
      have hwl := unhide HWL k
      have htl := List.length_take_le k ss
      have hps : (bsL (writeL (ss.take k))).size ≤ 120 := by rw [bsL_size]; omega
      have hsz := hb.size
      have hbw := lt_of_cell c0
      simp at hbw
      generalize ss.getD k St.z = x at *
      obtain ⟨g1, g2, g3, g4, g5, g6, g7⟩ := stOk_bds hst
      obtain ⟨op, key, num⟩ := x
      simp only at g1 g2 g3 g4 g5 g6 g7 c0 c1 c2
      obtain ⟨K, rfl⟩ := Int.eq_ofNat_of_zero_le g3
      have HEND : Hid (bsL (writeL (ss.take (k + 1))) = if op = 1 then ((bsL (writeL (ss.take k)) ++ bsL (opW op ++ [32])) ++ decS K) ++ ⟨#[59]⟩ else ((((bsL (writeL (ss.take k)) ++ bsL (opW op ++ [32])) ++ decS K) ++ ⟨#[32]⟩) ++ intS num) ++ ⟨#[59]⟩) := by
        show _ = _
        rw [hws, decS_bs, intS_bs, show (⟨#[59]⟩ : ByteArray) = bsL [59] from rfl, show (⟨#[32]⟩ : ByteArray) = bsL [32] from rfl]
        split
        · rename_i h; simp [bsL_app, stL, bodyL, h]
        · rename_i h; simp [bsL_app, stL, bodyL, h]
      have ho1 : (bsL (opW op ++ [32])).size ≤ 5 := by
        rw [bsL_size, List.length_append]
        unfold opW; (repeat' split) <;> simp
      have hd1 := decS_size 2 K (by omega)
      have hd2 : (intS num).size ≤ 6 := by rw [intS_bs, bsL_size]; exact (itoa_len (by omega) (by omega)).2
      generalize bsL (writeL (ss.take k)) = P at *
      clear hws hwl htl hst hb
      have HBX := hide (Box.made wr 35 #[.int .i64 op, .int .i64 (K : Int), .int .i64 num])
      have hba : Below w.heap.size w (wr.alloc (.cells #[.int .i64 op, .int .i64 (K : Int), .int .i64 num] 35)) := (unhide HB).alloc (unhide HB).size _
      have HBA := hide hba
      clear hba
      go_wp2_with fail
      go_cut [3] from 9 to 40 (fun t wz => t = .string ((P ++ bsL (opW op ++ [32])) ++ decS K) ∧ Box wz wr.heap.size 35 #[.int .i64 op, .int .i64 (K : Int), .int .i64 num] ∧ Below w.heap.size w wz)
      case first =>
        have hop : op = 1 ∨ op = 2 ∨ op = 3 ∨ op = 4 := by omega
        clear g1 g2 g7 HEND c0 c1 c2
        rcases hop with rfl | rfl | rfl | rfl
        · refine wp_region_held_drew (S := fun ww => Box ww wr.heap.size 35 #[.int .i64 1, .int .i64 (K : Int), .int .i64 num]) (by kernel_rfl) ⟨(unhide HBX).row⟩ (fun hHeld => ?_)
          refine wpAnyH_take (i := 0) (v := ?v1) rfl (by kernel_rfl) (by kernel_rfl) (by kernel_rfl) (fun _ _ _ h => h) (Or.inl ⟨by rfl, ?h1⟩) (by assumption) ?_
          case h1 => (intro w0 hSw; clear hSw; go_simp; try (with_reducible rfl))
          try simp only [Act.put]
          refine wpAnyH_take (i := 2) (v := ?v2) rfl (by kernel_rfl) (by kernel_rfl) (by kernel_rfl) (fun _ _ _ h => h) (Or.inl ⟨by rfl, ?h2⟩) (by assumption) ?_
          case h2 => (intro w0 hSw; clear hSw; go_simp; try (with_reducible rfl))
          try simp only [Act.put]
          refine wpAnyH_take (i := 7) (v := ?v3) rfl (by kernel_rfl) (by kernel_rfl) (by kernel_rfl) (fun _ _ _ h => h) (Or.inl ⟨by rfl, ?h3⟩) (by assumption) ?_
          case h3 => (intro w0 hSw; clear hSw; go_simp; try (with_reducible rfl))
          try simp only [Act.put]
          refine wpAnyH_take (i := 3) (v := ?v4) rfl (by kernel_rfl) (by kernel_rfl) (by kernel_rfl) (fun _ _ _ h => h) (Or.inl ⟨by rfl, ?h4⟩) (by assumption) ?_
          case h4 => (intro w0 hSw; have s0 := hSw.cell 0; simp only [List.getElem?_toArray, List.getElem?_cons_zero] at s0; clear hSw; go_simp; try (with_reducible rfl))
          try simp only [Act.put]
          refine wpAnyH_take (i := 8) (v := ?v5) rfl (by kernel_rfl) (by kernel_rfl) (by kernel_rfl) (fun _ _ _ h => h) (Or.inl ⟨by rfl, ?h5⟩) (by assumption) ?_
          case h5 => (intro w0 hSw; have s1 := hSw.cell 1; simp only [List.getElem?_toArray, List.getElem?_cons_zero, List.getElem?_cons_succ] at s1; clear hSw; go_simp; try (with_reducible rfl))
          try simp only [Act.put]
          refine wpAnyH_ready (rs := [1, 9]) (by kernel_rfl) (by simp) ?_
          refine AllReadyH.cons rfl (fun Kx hK => ?_) (AllReadyH.cons rfl (fun Kx hK => ?_) AllReadyH.nil)
          · go_simp
            try go_wp2_with fail
            have HS := hide ((unhide HBA).drew.alloc (by have := (unhide HBA).size; simpa using this) (.cells #[.string ⟨#[]⟩, .string ⟨#[103, 101, 116, 32]⟩, .string ⟨#[112, 117, 116, 32]⟩, .string ⟨#[97, 100, 100, 32]⟩, .string ⟨#[110, 101, 101, 100, 32]⟩] 9))
            have HSB : Hid (Box (((wr.alloc (.cells #[.int .i64 1, .int .i64 (K : Int), .int .i64 num] 35)).drew).alloc (.cells #[.string ⟨#[]⟩, .string ⟨#[103, 101, 116, 32]⟩, .string ⟨#[112, 117, 116, 32]⟩, .string ⟨#[97, 100, 100, 32]⟩, .string ⟨#[110, 101, 101, 100, 32]⟩] 9)) (wr.heap.size + 1) 9 #[.string ⟨#[]⟩, .string ⟨#[103, 101, 116, 32]⟩, .string ⟨#[112, 117, 116, 32]⟩, .string ⟨#[97, 100, 100, 32]⟩, .string ⟨#[110, 101, 101, 100, 32]⟩]) := ⟨by rw [show wr.heap.size + 1 = ((wr.alloc (.cells #[.int .i64 1, .int .i64 (K : Int), .int .i64 num] 35)).drew).heap.size by simp]; exact heap_alloc_new _ _⟩
            have hS1 := hide hHeld
            clear hHeld
            refine hK.out _ _ ((unhide hS1).alloc _) (fun hHeld => ?_)
            clear hK Kx hS1
            refine wpAnyH_take (i := 4) (v := ?v6) rfl (by kernel_rfl) (by kernel_rfl) (by kernel_rfl) (fun _ _ _ h => h) (Or.inl ⟨by rfl, ?h6⟩) (by assumption) ?_
            case h6 => (intro w0 hSw; clear hSw; go_simp; try (with_reducible rfl))
            try simp only [Act.put]
            refine wpAnyH_ready (rs := [5, 9]) (by kernel_rfl) (by simp) ?_
            refine AllReadyH.cons rfl (fun Kx hK => ?_) (AllReadyH.cons rfl (fun Kx hK => ?_) AllReadyH.nil)
            · go_simp
              try go_wp2_with fail
              have hS1 := hide hHeld
              clear hHeld
              refine hK.out _ _ (unhide hS1) (fun hHeld => ?_)
              clear hK Kx hS1
              refine wpAnyH_take (i := 6) (v := ?v7) rfl (by kernel_rfl) (by kernel_rfl) (by kernel_rfl) (fun _ _ _ h => h) (Or.inl ⟨by rfl, ?h7⟩) (by assumption) ?_
              case h7 => (intro w0 hSw; clear hSw; go_simp; rw [if_neg (by omega)])
              try simp only [Act.put]
              refine wpAnyH_ready (rs := [9]) (by kernel_rfl) (by simp) ?_
              refine AllReadyH.cons rfl (fun Kx hK => ?_) AllReadyH.nil
              go_simp
              go_at_call 52
              refine (unhide HDEC K _ (by omega)).mono ?_; rintro e w2 ⟨rfl, hb2⟩
              have HB2 := hide hb2
              clear hb2
              try go_wp2_with fail
              have HE := hide ((unhide HS).trans ((unhide HB2).mono (unhide HS).size))
              have hS1 := hide hHeld
              clear hHeld
              refine hK.out _ _ ((unhide hS1).kept (unhide HB2)) (fun hHeld => ?_)
              clear hK Kx hS1
              refine wpAnyH_take (i := 10) (v := ?v8) rfl (by kernel_rfl) (by kernel_rfl) (by kernel_rfl) (fun _ _ _ h => h) (Or.inl ⟨by rfl, ?h8⟩) (by assumption) ?_
              case h8 => (intro w0 hSw; clear hSw; go_simp; rw [if_neg (by omega)])
              try simp only [Act.put]
              refine wpAnyH_ready (rs := [11]) (by kernel_rfl) (by simp) ?_
              refine AllReadyH.cons rfl (fun Kx hK => ?_) AllReadyH.nil
              go_simp
              try go_wp2_with fail
              refine hK.out _ _ (by assumption) (fun hHeld2 => ?_)
              clear hK Kx
              refine wpAnyH_done (by kernel_rfl) ?_ _
              try go_wp2_with fail
              go_meet
              case rel => exact ⟨rfl, hHeld2, unhide HE⟩
            · skip
              go_simp
              go_at_call 52
              refine (unhide HDEC K _ (by omega)).mono ?_; rintro e w2 ⟨rfl, hb2⟩
              have HB2 := hide hb2
              clear hb2
              try go_wp2_with fail
              have HE := hide ((unhide HS).trans ((unhide HB2).mono (unhide HS).size))
              have hcs := ((unhide HSB).kept (unhide HB2)).cell 1
              simp only [List.getElem?_toArray, List.getElem?_cons_zero, List.getElem?_cons_succ] at hcs
              have hS1 := hide hHeld
              clear hHeld
              refine hK.out _ _ ((unhide hS1).kept (unhide HB2)) (fun hHeld => ?_)
              clear hK Kx hS1
              refine wpAnyH_ready (rs := [5]) (by kernel_rfl) (by simp) ?_
              refine AllReadyH.cons rfl (fun Kx hK => ?_) AllReadyH.nil
              go_simp
              try go_wp2_with fail
              have hS1 := hide hHeld
              clear hHeld
              refine hK.out _ _ (unhide hS1) (fun hHeld => ?_)
              clear hK Kx hS1
              refine wpAnyH_take (i := 6) (v := ?v9) rfl (by kernel_rfl) (by kernel_rfl) (by kernel_rfl) (fun _ _ _ h => h) (Or.inl ⟨by rfl, ?h9⟩) (by assumption) ?_
              case h9 => (intro w0 hSw; clear hSw; go_simp; rw [if_neg (by omega)])
              try simp only [Act.put]
              refine wpAnyH_take (i := 10) (v := ?v10) rfl (by kernel_rfl) (by kernel_rfl) (by kernel_rfl) (fun _ _ _ h => h) (Or.inl ⟨by rfl, ?h10⟩) (by assumption) ?_
              case h10 => (intro w0 hSw; clear hSw; go_simp; rw [if_neg (by omega)])
              try simp only [Act.put]
              refine wpAnyH_ready (rs := [11]) (by kernel_rfl) (by simp) ?_
              refine AllReadyH.cons rfl (fun Kx hK => ?_) AllReadyH.nil
              go_simp
              try go_wp2_with fail
              refine hK.out _ _ (by assumption) (fun hHeld2 => ?_)
              clear hK Kx
              refine wpAnyH_done (by kernel_rfl) ?_ _
              try go_wp2_with fail
              go_meet
              case rel => exact ⟨rfl, hHeld2, unhide HE⟩
          · skip
            go_simp
            go_at_call 52
            refine (unhide HDEC K _ (by omega)).mono ?_; rintro e w2 ⟨rfl, hb2⟩
            have HB2 := hide hb2
            clear hb2
            try go_wp2_with fail
            have HE := hide (((unhide HBA).drew).trans ((unhide HB2).mono (by have := (unhide HBA).size; simpa using this)))
            have hS1 := hide hHeld
            clear hHeld
            refine hK.out _ _ ((unhide hS1).kept (unhide HB2)) (fun hHeld => ?_)
            clear hK Kx hS1
            refine wpAnyH_ready (rs := [1]) (by kernel_rfl) (by simp) ?_
            refine AllReadyH.cons rfl (fun Kx hK => ?_) AllReadyH.nil
            go_simp
            try go_wp2_with fail
            have hS1 := hide hHeld
            clear hHeld
            refine hK.out _ _ ((unhide hS1).alloc _) (fun hHeld => ?_)
            clear hK Kx hS1
            refine wpAnyH_take (i := 4) (v := ?v11) rfl (by kernel_rfl) (by kernel_rfl) (by kernel_rfl) (fun _ _ _ h => h) (Or.inl ⟨by rfl, ?h11⟩) (by assumption) ?_
            case h11 => (intro w0 hSw; clear hSw; go_simp; try (with_reducible rfl))
            try simp only [Act.put]
            refine wpAnyH_ready (rs := [5]) (by kernel_rfl) (by simp) ?_
            refine AllReadyH.cons rfl (fun Kx hK => ?_) AllReadyH.nil
            go_simp
            try go_wp2_with fail
            have hS1 := hide hHeld
            clear hHeld
            refine hK.out _ _ (unhide hS1) (fun hHeld => ?_)
            clear hK Kx hS1
            refine wpAnyH_take (i := 6) (v := ?v12) rfl (by kernel_rfl) (by kernel_rfl) (by kernel_rfl) (fun _ _ _ h => h) (Or.inl ⟨by rfl, ?h12⟩) (by assumption) ?_
            case h12 => (intro w0 hSw; clear hSw; go_simp; rw [if_neg (by omega)])
            try simp only [Act.put]
            refine wpAnyH_take (i := 10) (v := ?v13) rfl (by kernel_rfl) (by kernel_rfl) (by kernel_rfl) (fun _ _ _ h => h) (Or.inl ⟨by rfl, ?h13⟩) (by assumption) ?_
            case h13 => (intro w0 hSw; clear hSw; go_simp; rw [if_neg (by omega)])
            try simp only [Act.put]
            refine wpAnyH_ready (rs := [11]) (by kernel_rfl) (by simp) ?_
            refine AllReadyH.cons rfl (fun Kx hK => ?_) AllReadyH.nil
            go_simp
            try go_wp2_with fail
            refine hK.out _ _ (by assumption) (fun hHeld2 => ?_)
            clear hK Kx
            refine wpAnyH_done (by kernel_rfl) ?_ _
            try go_wp2_with fail
            go_meet
            case rel => exact ⟨rfl, hHeld2, (unhide HE).alloc (unhide HE).size _⟩
        · refine wp_region_held_drew (S := fun ww => Box ww wr.heap.size 35 #[.int .i64 2, .int .i64 (K : Int), .int .i64 num]) (by kernel_rfl) ⟨(unhide HBX).row⟩ (fun hHeld => ?_)
          refine wpAnyH_take (i := 0) (v := ?v14) rfl (by kernel_rfl) (by kernel_rfl) (by kernel_rfl) (fun _ _ _ h => h) (Or.inl ⟨by rfl, ?h14⟩) (by assumption) ?_
          case h14 => (intro w0 hSw; clear hSw; go_simp; try (with_reducible rfl))
          try simp only [Act.put]
          refine wpAnyH_take (i := 2) (v := ?v15) rfl (by kernel_rfl) (by kernel_rfl) (by kernel_rfl) (fun _ _ _ h => h) (Or.inl ⟨by rfl, ?h15⟩) (by assumption) ?_
          case h15 => (intro w0 hSw; clear hSw; go_simp; try (with_reducible rfl))
          try simp only [Act.put]
          refine wpAnyH_take (i := 7) (v := ?v16) rfl (by kernel_rfl) (by kernel_rfl) (by kernel_rfl) (fun _ _ _ h => h) (Or.inl ⟨by rfl, ?h16⟩) (by assumption) ?_
          case h16 => (intro w0 hSw; clear hSw; go_simp; try (with_reducible rfl))
          try simp only [Act.put]
          refine wpAnyH_take (i := 3) (v := ?v17) rfl (by kernel_rfl) (by kernel_rfl) (by kernel_rfl) (fun _ _ _ h => h) (Or.inl ⟨by rfl, ?h17⟩) (by assumption) ?_
          case h17 => (intro w0 hSw; have s0 := hSw.cell 0; simp only [List.getElem?_toArray, List.getElem?_cons_zero] at s0; clear hSw; go_simp; try (with_reducible rfl))
          try simp only [Act.put]
          refine wpAnyH_take (i := 8) (v := ?v18) rfl (by kernel_rfl) (by kernel_rfl) (by kernel_rfl) (fun _ _ _ h => h) (Or.inl ⟨by rfl, ?h18⟩) (by assumption) ?_
          case h18 => (intro w0 hSw; have s1 := hSw.cell 1; simp only [List.getElem?_toArray, List.getElem?_cons_zero, List.getElem?_cons_succ] at s1; clear hSw; go_simp; try (with_reducible rfl))
          try simp only [Act.put]
          refine wpAnyH_ready (rs := [1, 9]) (by kernel_rfl) (by simp) ?_
          refine AllReadyH.cons rfl (fun Kx hK => ?_) (AllReadyH.cons rfl (fun Kx hK => ?_) AllReadyH.nil)
          · go_simp
            try go_wp2_with fail
            have HS := hide ((unhide HBA).drew.alloc (by have := (unhide HBA).size; simpa using this) (.cells #[.string ⟨#[]⟩, .string ⟨#[103, 101, 116, 32]⟩, .string ⟨#[112, 117, 116, 32]⟩, .string ⟨#[97, 100, 100, 32]⟩, .string ⟨#[110, 101, 101, 100, 32]⟩] 9))
            have HSB : Hid (Box (((wr.alloc (.cells #[.int .i64 2, .int .i64 (K : Int), .int .i64 num] 35)).drew).alloc (.cells #[.string ⟨#[]⟩, .string ⟨#[103, 101, 116, 32]⟩, .string ⟨#[112, 117, 116, 32]⟩, .string ⟨#[97, 100, 100, 32]⟩, .string ⟨#[110, 101, 101, 100, 32]⟩] 9)) (wr.heap.size + 1) 9 #[.string ⟨#[]⟩, .string ⟨#[103, 101, 116, 32]⟩, .string ⟨#[112, 117, 116, 32]⟩, .string ⟨#[97, 100, 100, 32]⟩, .string ⟨#[110, 101, 101, 100, 32]⟩]) := ⟨by rw [show wr.heap.size + 1 = ((wr.alloc (.cells #[.int .i64 2, .int .i64 (K : Int), .int .i64 num] 35)).drew).heap.size by simp]; exact heap_alloc_new _ _⟩
            have hS1 := hide hHeld
            clear hHeld
            refine hK.out _ _ ((unhide hS1).alloc _) (fun hHeld => ?_)
            clear hK Kx hS1
            refine wpAnyH_take (i := 4) (v := ?v19) rfl (by kernel_rfl) (by kernel_rfl) (by kernel_rfl) (fun _ _ _ h => h) (Or.inl ⟨by rfl, ?h19⟩) (by assumption) ?_
            case h19 => (intro w0 hSw; clear hSw; go_simp; try (with_reducible rfl))
            try simp only [Act.put]
            refine wpAnyH_ready (rs := [5, 9]) (by kernel_rfl) (by simp) ?_
            refine AllReadyH.cons rfl (fun Kx hK => ?_) (AllReadyH.cons rfl (fun Kx hK => ?_) AllReadyH.nil)
            · go_simp
              try go_wp2_with fail
              have hS1 := hide hHeld
              clear hHeld
              refine hK.out _ _ (unhide hS1) (fun hHeld => ?_)
              clear hK Kx hS1
              refine wpAnyH_take (i := 6) (v := ?v20) rfl (by kernel_rfl) (by kernel_rfl) (by kernel_rfl) (fun _ _ _ h => h) (Or.inl ⟨by rfl, ?h20⟩) (by assumption) ?_
              case h20 => (intro w0 hSw; clear hSw; go_simp; rw [if_neg (by omega)])
              try simp only [Act.put]
              refine wpAnyH_ready (rs := [9]) (by kernel_rfl) (by simp) ?_
              refine AllReadyH.cons rfl (fun Kx hK => ?_) AllReadyH.nil
              go_simp
              go_at_call 52
              refine (unhide HDEC K _ (by omega)).mono ?_; rintro e w2 ⟨rfl, hb2⟩
              have HB2 := hide hb2
              clear hb2
              try go_wp2_with fail
              have HE := hide ((unhide HS).trans ((unhide HB2).mono (unhide HS).size))
              have hS1 := hide hHeld
              clear hHeld
              refine hK.out _ _ ((unhide hS1).kept (unhide HB2)) (fun hHeld => ?_)
              clear hK Kx hS1
              refine wpAnyH_take (i := 10) (v := ?v21) rfl (by kernel_rfl) (by kernel_rfl) (by kernel_rfl) (fun _ _ _ h => h) (Or.inl ⟨by rfl, ?h21⟩) (by assumption) ?_
              case h21 => (intro w0 hSw; clear hSw; go_simp; rw [if_neg (by omega)])
              try simp only [Act.put]
              refine wpAnyH_ready (rs := [11]) (by kernel_rfl) (by simp) ?_
              refine AllReadyH.cons rfl (fun Kx hK => ?_) AllReadyH.nil
              go_simp
              try go_wp2_with fail
              refine hK.out _ _ (by assumption) (fun hHeld2 => ?_)
              clear hK Kx
              refine wpAnyH_done (by kernel_rfl) ?_ _
              try go_wp2_with fail
              go_meet
              case rel => exact ⟨rfl, hHeld2, unhide HE⟩
            · skip
              go_simp
              go_at_call 52
              refine (unhide HDEC K _ (by omega)).mono ?_; rintro e w2 ⟨rfl, hb2⟩
              have HB2 := hide hb2
              clear hb2
              try go_wp2_with fail
              have HE := hide ((unhide HS).trans ((unhide HB2).mono (unhide HS).size))
              have hcs := ((unhide HSB).kept (unhide HB2)).cell 2
              simp only [List.getElem?_toArray, List.getElem?_cons_zero, List.getElem?_cons_succ] at hcs
              have hS1 := hide hHeld
              clear hHeld
              refine hK.out _ _ ((unhide hS1).kept (unhide HB2)) (fun hHeld => ?_)
              clear hK Kx hS1
              refine wpAnyH_ready (rs := [5]) (by kernel_rfl) (by simp) ?_
              refine AllReadyH.cons rfl (fun Kx hK => ?_) AllReadyH.nil
              go_simp
              try go_wp2_with fail
              have hS1 := hide hHeld
              clear hHeld
              refine hK.out _ _ (unhide hS1) (fun hHeld => ?_)
              clear hK Kx hS1
              refine wpAnyH_take (i := 6) (v := ?v22) rfl (by kernel_rfl) (by kernel_rfl) (by kernel_rfl) (fun _ _ _ h => h) (Or.inl ⟨by rfl, ?h22⟩) (by assumption) ?_
              case h22 => (intro w0 hSw; clear hSw; go_simp; rw [if_neg (by omega)])
              try simp only [Act.put]
              refine wpAnyH_take (i := 10) (v := ?v23) rfl (by kernel_rfl) (by kernel_rfl) (by kernel_rfl) (fun _ _ _ h => h) (Or.inl ⟨by rfl, ?h23⟩) (by assumption) ?_
              case h23 => (intro w0 hSw; clear hSw; go_simp; rw [if_neg (by omega)])
              try simp only [Act.put]
              refine wpAnyH_ready (rs := [11]) (by kernel_rfl) (by simp) ?_
              refine AllReadyH.cons rfl (fun Kx hK => ?_) AllReadyH.nil
              go_simp
              try go_wp2_with fail
              refine hK.out _ _ (by assumption) (fun hHeld2 => ?_)
              clear hK Kx
              refine wpAnyH_done (by kernel_rfl) ?_ _
              try go_wp2_with fail
              go_meet
              case rel => exact ⟨rfl, hHeld2, unhide HE⟩
          · skip
            go_simp
            go_at_call 52
            refine (unhide HDEC K _ (by omega)).mono ?_; rintro e w2 ⟨rfl, hb2⟩
            have HB2 := hide hb2
            clear hb2
            try go_wp2_with fail
            have HE := hide (((unhide HBA).drew).trans ((unhide HB2).mono (by have := (unhide HBA).size; simpa using this)))
            have hS1 := hide hHeld
            clear hHeld
            refine hK.out _ _ ((unhide hS1).kept (unhide HB2)) (fun hHeld => ?_)
            clear hK Kx hS1
            refine wpAnyH_ready (rs := [1]) (by kernel_rfl) (by simp) ?_
            refine AllReadyH.cons rfl (fun Kx hK => ?_) AllReadyH.nil
            go_simp
            try go_wp2_with fail
            have hS1 := hide hHeld
            clear hHeld
            refine hK.out _ _ ((unhide hS1).alloc _) (fun hHeld => ?_)
            clear hK Kx hS1
            refine wpAnyH_take (i := 4) (v := ?v24) rfl (by kernel_rfl) (by kernel_rfl) (by kernel_rfl) (fun _ _ _ h => h) (Or.inl ⟨by rfl, ?h24⟩) (by assumption) ?_
            case h24 => (intro w0 hSw; clear hSw; go_simp; try (with_reducible rfl))
            try simp only [Act.put]
            refine wpAnyH_ready (rs := [5]) (by kernel_rfl) (by simp) ?_
            refine AllReadyH.cons rfl (fun Kx hK => ?_) AllReadyH.nil
            go_simp
            try go_wp2_with fail
            have hS1 := hide hHeld
            clear hHeld
            refine hK.out _ _ (unhide hS1) (fun hHeld => ?_)
            clear hK Kx hS1
            refine wpAnyH_take (i := 6) (v := ?v25) rfl (by kernel_rfl) (by kernel_rfl) (by kernel_rfl) (fun _ _ _ h => h) (Or.inl ⟨by rfl, ?h25⟩) (by assumption) ?_
            case h25 => (intro w0 hSw; clear hSw; go_simp; rw [if_neg (by omega)])
            try simp only [Act.put]
            refine wpAnyH_take (i := 10) (v := ?v26) rfl (by kernel_rfl) (by kernel_rfl) (by kernel_rfl) (fun _ _ _ h => h) (Or.inl ⟨by rfl, ?h26⟩) (by assumption) ?_
            case h26 => (intro w0 hSw; clear hSw; go_simp; rw [if_neg (by omega)])
            try simp only [Act.put]
            refine wpAnyH_ready (rs := [11]) (by kernel_rfl) (by simp) ?_
            refine AllReadyH.cons rfl (fun Kx hK => ?_) AllReadyH.nil
            go_simp
            try go_wp2_with fail
            refine hK.out _ _ (by assumption) (fun hHeld2 => ?_)
            clear hK Kx
            refine wpAnyH_done (by kernel_rfl) ?_ _
            try go_wp2_with fail
            go_meet
            case rel => exact ⟨rfl, hHeld2, (unhide HE).alloc (unhide HE).size _⟩
        · refine wp_region_held_drew (S := fun ww => Box ww wr.heap.size 35 #[.int .i64 3, .int .i64 (K : Int), .int .i64 num]) (by kernel_rfl) ⟨(unhide HBX).row⟩ (fun hHeld => ?_)
          refine wpAnyH_take (i := 0) (v := ?v27) rfl (by kernel_rfl) (by kernel_rfl) (by kernel_rfl) (fun _ _ _ h => h) (Or.inl ⟨by rfl, ?h27⟩) (by assumption) ?_
          case h27 => (intro w0 hSw; clear hSw; go_simp; try (with_reducible rfl))
          try simp only [Act.put]
          refine wpAnyH_take (i := 2) (v := ?v28) rfl (by kernel_rfl) (by kernel_rfl) (by kernel_rfl) (fun _ _ _ h => h) (Or.inl ⟨by rfl, ?h28⟩) (by assumption) ?_
          case h28 => (intro w0 hSw; clear hSw; go_simp; try (with_reducible rfl))
          try simp only [Act.put]
          refine wpAnyH_take (i := 7) (v := ?v29) rfl (by kernel_rfl) (by kernel_rfl) (by kernel_rfl) (fun _ _ _ h => h) (Or.inl ⟨by rfl, ?h29⟩) (by assumption) ?_
          case h29 => (intro w0 hSw; clear hSw; go_simp; try (with_reducible rfl))
          try simp only [Act.put]
          refine wpAnyH_take (i := 3) (v := ?v30) rfl (by kernel_rfl) (by kernel_rfl) (by kernel_rfl) (fun _ _ _ h => h) (Or.inl ⟨by rfl, ?h30⟩) (by assumption) ?_
          case h30 => (intro w0 hSw; have s0 := hSw.cell 0; simp only [List.getElem?_toArray, List.getElem?_cons_zero] at s0; clear hSw; go_simp; try (with_reducible rfl))
          try simp only [Act.put]
          refine wpAnyH_take (i := 8) (v := ?v31) rfl (by kernel_rfl) (by kernel_rfl) (by kernel_rfl) (fun _ _ _ h => h) (Or.inl ⟨by rfl, ?h31⟩) (by assumption) ?_
          case h31 => (intro w0 hSw; have s1 := hSw.cell 1; simp only [List.getElem?_toArray, List.getElem?_cons_zero, List.getElem?_cons_succ] at s1; clear hSw; go_simp; try (with_reducible rfl))
          try simp only [Act.put]
          refine wpAnyH_ready (rs := [1, 9]) (by kernel_rfl) (by simp) ?_
          refine AllReadyH.cons rfl (fun Kx hK => ?_) (AllReadyH.cons rfl (fun Kx hK => ?_) AllReadyH.nil)
          · go_simp
            try go_wp2_with fail
            have HS := hide ((unhide HBA).drew.alloc (by have := (unhide HBA).size; simpa using this) (.cells #[.string ⟨#[]⟩, .string ⟨#[103, 101, 116, 32]⟩, .string ⟨#[112, 117, 116, 32]⟩, .string ⟨#[97, 100, 100, 32]⟩, .string ⟨#[110, 101, 101, 100, 32]⟩] 9))
            have HSB : Hid (Box (((wr.alloc (.cells #[.int .i64 3, .int .i64 (K : Int), .int .i64 num] 35)).drew).alloc (.cells #[.string ⟨#[]⟩, .string ⟨#[103, 101, 116, 32]⟩, .string ⟨#[112, 117, 116, 32]⟩, .string ⟨#[97, 100, 100, 32]⟩, .string ⟨#[110, 101, 101, 100, 32]⟩] 9)) (wr.heap.size + 1) 9 #[.string ⟨#[]⟩, .string ⟨#[103, 101, 116, 32]⟩, .string ⟨#[112, 117, 116, 32]⟩, .string ⟨#[97, 100, 100, 32]⟩, .string ⟨#[110, 101, 101, 100, 32]⟩]) := ⟨by rw [show wr.heap.size + 1 = ((wr.alloc (.cells #[.int .i64 3, .int .i64 (K : Int), .int .i64 num] 35)).drew).heap.size by simp]; exact heap_alloc_new _ _⟩
            have hS1 := hide hHeld
            clear hHeld
            refine hK.out _ _ ((unhide hS1).alloc _) (fun hHeld => ?_)
            clear hK Kx hS1
            refine wpAnyH_take (i := 4) (v := ?v32) rfl (by kernel_rfl) (by kernel_rfl) (by kernel_rfl) (fun _ _ _ h => h) (Or.inl ⟨by rfl, ?h32⟩) (by assumption) ?_
            case h32 => (intro w0 hSw; clear hSw; go_simp; try (with_reducible rfl))
            try simp only [Act.put]
            refine wpAnyH_ready (rs := [5, 9]) (by kernel_rfl) (by simp) ?_
            refine AllReadyH.cons rfl (fun Kx hK => ?_) (AllReadyH.cons rfl (fun Kx hK => ?_) AllReadyH.nil)
            · go_simp
              try go_wp2_with fail
              have hS1 := hide hHeld
              clear hHeld
              refine hK.out _ _ (unhide hS1) (fun hHeld => ?_)
              clear hK Kx hS1
              refine wpAnyH_take (i := 6) (v := ?v33) rfl (by kernel_rfl) (by kernel_rfl) (by kernel_rfl) (fun _ _ _ h => h) (Or.inl ⟨by rfl, ?h33⟩) (by assumption) ?_
              case h33 => (intro w0 hSw; clear hSw; go_simp; rw [if_neg (by omega)])
              try simp only [Act.put]
              refine wpAnyH_ready (rs := [9]) (by kernel_rfl) (by simp) ?_
              refine AllReadyH.cons rfl (fun Kx hK => ?_) AllReadyH.nil
              go_simp
              go_at_call 52
              refine (unhide HDEC K _ (by omega)).mono ?_; rintro e w2 ⟨rfl, hb2⟩
              have HB2 := hide hb2
              clear hb2
              try go_wp2_with fail
              have HE := hide ((unhide HS).trans ((unhide HB2).mono (unhide HS).size))
              have hS1 := hide hHeld
              clear hHeld
              refine hK.out _ _ ((unhide hS1).kept (unhide HB2)) (fun hHeld => ?_)
              clear hK Kx hS1
              refine wpAnyH_take (i := 10) (v := ?v34) rfl (by kernel_rfl) (by kernel_rfl) (by kernel_rfl) (fun _ _ _ h => h) (Or.inl ⟨by rfl, ?h34⟩) (by assumption) ?_
              case h34 => (intro w0 hSw; clear hSw; go_simp; rw [if_neg (by omega)])
              try simp only [Act.put]
              refine wpAnyH_ready (rs := [11]) (by kernel_rfl) (by simp) ?_
              refine AllReadyH.cons rfl (fun Kx hK => ?_) AllReadyH.nil
              go_simp
              try go_wp2_with fail
              refine hK.out _ _ (by assumption) (fun hHeld2 => ?_)
              clear hK Kx
              refine wpAnyH_done (by kernel_rfl) ?_ _
              try go_wp2_with fail
              go_meet
              case rel => exact ⟨rfl, hHeld2, unhide HE⟩
            · skip
              go_simp
              go_at_call 52
              refine (unhide HDEC K _ (by omega)).mono ?_; rintro e w2 ⟨rfl, hb2⟩
              have HB2 := hide hb2
              clear hb2
              try go_wp2_with fail
              have HE := hide ((unhide HS).trans ((unhide HB2).mono (unhide HS).size))
              have hcs := ((unhide HSB).kept (unhide HB2)).cell 3
              simp only [List.getElem?_toArray, List.getElem?_cons_zero, List.getElem?_cons_succ] at hcs
              have hS1 := hide hHeld
              clear hHeld
              refine hK.out _ _ ((unhide hS1).kept (unhide HB2)) (fun hHeld => ?_)
              clear hK Kx hS1
              refine wpAnyH_ready (rs := [5]) (by kernel_rfl) (by simp) ?_
              refine AllReadyH.cons rfl (fun Kx hK => ?_) AllReadyH.nil
              go_simp
              try go_wp2_with fail
              have hS1 := hide hHeld
              clear hHeld
              refine hK.out _ _ (unhide hS1) (fun hHeld => ?_)
              clear hK Kx hS1
              refine wpAnyH_take (i := 6) (v := ?v35) rfl (by kernel_rfl) (by kernel_rfl) (by kernel_rfl) (fun _ _ _ h => h) (Or.inl ⟨by rfl, ?h35⟩) (by assumption) ?_
              case h35 => (intro w0 hSw; clear hSw; go_simp; rw [if_neg (by omega)])
              try simp only [Act.put]
              refine wpAnyH_take (i := 10) (v := ?v36) rfl (by kernel_rfl) (by kernel_rfl) (by kernel_rfl) (fun _ _ _ h => h) (Or.inl ⟨by rfl, ?h36⟩) (by assumption) ?_
              case h36 => (intro w0 hSw; clear hSw; go_simp; rw [if_neg (by omega)])
              try simp only [Act.put]
              refine wpAnyH_ready (rs := [11]) (by kernel_rfl) (by simp) ?_
              refine AllReadyH.cons rfl (fun Kx hK => ?_) AllReadyH.nil
              go_simp
              try go_wp2_with fail
              refine hK.out _ _ (by assumption) (fun hHeld2 => ?_)
              clear hK Kx
              refine wpAnyH_done (by kernel_rfl) ?_ _
              try go_wp2_with fail
              go_meet
              case rel => exact ⟨rfl, hHeld2, unhide HE⟩
          · skip
            go_simp
            go_at_call 52
            refine (unhide HDEC K _ (by omega)).mono ?_; rintro e w2 ⟨rfl, hb2⟩
            have HB2 := hide hb2
            clear hb2
            try go_wp2_with fail
            have HE := hide (((unhide HBA).drew).trans ((unhide HB2).mono (by have := (unhide HBA).size; simpa using this)))
            have hS1 := hide hHeld
            clear hHeld
            refine hK.out _ _ ((unhide hS1).kept (unhide HB2)) (fun hHeld => ?_)
            clear hK Kx hS1
            refine wpAnyH_ready (rs := [1]) (by kernel_rfl) (by simp) ?_
            refine AllReadyH.cons rfl (fun Kx hK => ?_) AllReadyH.nil
            go_simp
            try go_wp2_with fail
            have hS1 := hide hHeld
            clear hHeld
            refine hK.out _ _ ((unhide hS1).alloc _) (fun hHeld => ?_)
            clear hK Kx hS1
            refine wpAnyH_take (i := 4) (v := ?v37) rfl (by kernel_rfl) (by kernel_rfl) (by kernel_rfl) (fun _ _ _ h => h) (Or.inl ⟨by rfl, ?h37⟩) (by assumption) ?_
            case h37 => (intro w0 hSw; clear hSw; go_simp; try (with_reducible rfl))
            try simp only [Act.put]
            refine wpAnyH_ready (rs := [5]) (by kernel_rfl) (by simp) ?_
            refine AllReadyH.cons rfl (fun Kx hK => ?_) AllReadyH.nil
            go_simp
            try go_wp2_with fail
            have hS1 := hide hHeld
            clear hHeld
            refine hK.out _ _ (unhide hS1) (fun hHeld => ?_)
            clear hK Kx hS1
            refine wpAnyH_take (i := 6) (v := ?v38) rfl (by kernel_rfl) (by kernel_rfl) (by kernel_rfl) (fun _ _ _ h => h) (Or.inl ⟨by rfl, ?h38⟩) (by assumption) ?_
            case h38 => (intro w0 hSw; clear hSw; go_simp; rw [if_neg (by omega)])
            try simp only [Act.put]
            refine wpAnyH_take (i := 10) (v := ?v39) rfl (by kernel_rfl) (by kernel_rfl) (by kernel_rfl) (fun _ _ _ h => h) (Or.inl ⟨by rfl, ?h39⟩) (by assumption) ?_
            case h39 => (intro w0 hSw; clear hSw; go_simp; rw [if_neg (by omega)])
            try simp only [Act.put]
            refine wpAnyH_ready (rs := [11]) (by kernel_rfl) (by simp) ?_
            refine AllReadyH.cons rfl (fun Kx hK => ?_) AllReadyH.nil
            go_simp
            try go_wp2_with fail
            refine hK.out _ _ (by assumption) (fun hHeld2 => ?_)
            clear hK Kx
            refine wpAnyH_done (by kernel_rfl) ?_ _
            try go_wp2_with fail
            go_meet
            case rel => exact ⟨rfl, hHeld2, (unhide HE).alloc (unhide HE).size _⟩
        · refine wp_region_held_drew (S := fun ww => Box ww wr.heap.size 35 #[.int .i64 4, .int .i64 (K : Int), .int .i64 num]) (by kernel_rfl) ⟨(unhide HBX).row⟩ (fun hHeld => ?_)
          refine wpAnyH_take (i := 0) (v := ?v40) rfl (by kernel_rfl) (by kernel_rfl) (by kernel_rfl) (fun _ _ _ h => h) (Or.inl ⟨by rfl, ?h40⟩) (by assumption) ?_
          case h40 => (intro w0 hSw; clear hSw; go_simp; try (with_reducible rfl))
          try simp only [Act.put]
          refine wpAnyH_take (i := 2) (v := ?v41) rfl (by kernel_rfl) (by kernel_rfl) (by kernel_rfl) (fun _ _ _ h => h) (Or.inl ⟨by rfl, ?h41⟩) (by assumption) ?_
          case h41 => (intro w0 hSw; clear hSw; go_simp; try (with_reducible rfl))
          try simp only [Act.put]
          refine wpAnyH_take (i := 7) (v := ?v42) rfl (by kernel_rfl) (by kernel_rfl) (by kernel_rfl) (fun _ _ _ h => h) (Or.inl ⟨by rfl, ?h42⟩) (by assumption) ?_
          case h42 => (intro w0 hSw; clear hSw; go_simp; try (with_reducible rfl))
          try simp only [Act.put]
          refine wpAnyH_take (i := 3) (v := ?v43) rfl (by kernel_rfl) (by kernel_rfl) (by kernel_rfl) (fun _ _ _ h => h) (Or.inl ⟨by rfl, ?h43⟩) (by assumption) ?_
          case h43 => (intro w0 hSw; have s0 := hSw.cell 0; simp only [List.getElem?_toArray, List.getElem?_cons_zero] at s0; clear hSw; go_simp; try (with_reducible rfl))
          try simp only [Act.put]
          refine wpAnyH_take (i := 8) (v := ?v44) rfl (by kernel_rfl) (by kernel_rfl) (by kernel_rfl) (fun _ _ _ h => h) (Or.inl ⟨by rfl, ?h44⟩) (by assumption) ?_
          case h44 => (intro w0 hSw; have s1 := hSw.cell 1; simp only [List.getElem?_toArray, List.getElem?_cons_zero, List.getElem?_cons_succ] at s1; clear hSw; go_simp; try (with_reducible rfl))
          try simp only [Act.put]
          refine wpAnyH_ready (rs := [1, 9]) (by kernel_rfl) (by simp) ?_
          refine AllReadyH.cons rfl (fun Kx hK => ?_) (AllReadyH.cons rfl (fun Kx hK => ?_) AllReadyH.nil)
          · go_simp
            try go_wp2_with fail
            have HS := hide ((unhide HBA).drew.alloc (by have := (unhide HBA).size; simpa using this) (.cells #[.string ⟨#[]⟩, .string ⟨#[103, 101, 116, 32]⟩, .string ⟨#[112, 117, 116, 32]⟩, .string ⟨#[97, 100, 100, 32]⟩, .string ⟨#[110, 101, 101, 100, 32]⟩] 9))
            have HSB : Hid (Box (((wr.alloc (.cells #[.int .i64 4, .int .i64 (K : Int), .int .i64 num] 35)).drew).alloc (.cells #[.string ⟨#[]⟩, .string ⟨#[103, 101, 116, 32]⟩, .string ⟨#[112, 117, 116, 32]⟩, .string ⟨#[97, 100, 100, 32]⟩, .string ⟨#[110, 101, 101, 100, 32]⟩] 9)) (wr.heap.size + 1) 9 #[.string ⟨#[]⟩, .string ⟨#[103, 101, 116, 32]⟩, .string ⟨#[112, 117, 116, 32]⟩, .string ⟨#[97, 100, 100, 32]⟩, .string ⟨#[110, 101, 101, 100, 32]⟩]) := ⟨by rw [show wr.heap.size + 1 = ((wr.alloc (.cells #[.int .i64 4, .int .i64 (K : Int), .int .i64 num] 35)).drew).heap.size by simp]; exact heap_alloc_new _ _⟩
            have hS1 := hide hHeld
            clear hHeld
            refine hK.out _ _ ((unhide hS1).alloc _) (fun hHeld => ?_)
            clear hK Kx hS1
            refine wpAnyH_take (i := 4) (v := ?v45) rfl (by kernel_rfl) (by kernel_rfl) (by kernel_rfl) (fun _ _ _ h => h) (Or.inl ⟨by rfl, ?h45⟩) (by assumption) ?_
            case h45 => (intro w0 hSw; clear hSw; go_simp; try (with_reducible rfl))
            try simp only [Act.put]
            refine wpAnyH_ready (rs := [5, 9]) (by kernel_rfl) (by simp) ?_
            refine AllReadyH.cons rfl (fun Kx hK => ?_) (AllReadyH.cons rfl (fun Kx hK => ?_) AllReadyH.nil)
            · go_simp
              try go_wp2_with fail
              have hS1 := hide hHeld
              clear hHeld
              refine hK.out _ _ (unhide hS1) (fun hHeld => ?_)
              clear hK Kx hS1
              refine wpAnyH_take (i := 6) (v := ?v46) rfl (by kernel_rfl) (by kernel_rfl) (by kernel_rfl) (fun _ _ _ h => h) (Or.inl ⟨by rfl, ?h46⟩) (by assumption) ?_
              case h46 => (intro w0 hSw; clear hSw; go_simp; rw [if_neg (by omega)])
              try simp only [Act.put]
              refine wpAnyH_ready (rs := [9]) (by kernel_rfl) (by simp) ?_
              refine AllReadyH.cons rfl (fun Kx hK => ?_) AllReadyH.nil
              go_simp
              go_at_call 52
              refine (unhide HDEC K _ (by omega)).mono ?_; rintro e w2 ⟨rfl, hb2⟩
              have HB2 := hide hb2
              clear hb2
              try go_wp2_with fail
              have HE := hide ((unhide HS).trans ((unhide HB2).mono (unhide HS).size))
              have hS1 := hide hHeld
              clear hHeld
              refine hK.out _ _ ((unhide hS1).kept (unhide HB2)) (fun hHeld => ?_)
              clear hK Kx hS1
              refine wpAnyH_take (i := 10) (v := ?v47) rfl (by kernel_rfl) (by kernel_rfl) (by kernel_rfl) (fun _ _ _ h => h) (Or.inl ⟨by rfl, ?h47⟩) (by assumption) ?_
              case h47 => (intro w0 hSw; clear hSw; go_simp; rw [if_neg (by omega)])
              try simp only [Act.put]
              refine wpAnyH_ready (rs := [11]) (by kernel_rfl) (by simp) ?_
              refine AllReadyH.cons rfl (fun Kx hK => ?_) AllReadyH.nil
              go_simp
              try go_wp2_with fail
              refine hK.out _ _ (by assumption) (fun hHeld2 => ?_)
              clear hK Kx
              refine wpAnyH_done (by kernel_rfl) ?_ _
              try go_wp2_with fail
              go_meet
              case rel => exact ⟨rfl, hHeld2, unhide HE⟩
            · skip
              go_simp
              go_at_call 52
              refine (unhide HDEC K _ (by omega)).mono ?_; rintro e w2 ⟨rfl, hb2⟩
              have HB2 := hide hb2
              clear hb2
              try go_wp2_with fail
              have HE := hide ((unhide HS).trans ((unhide HB2).mono (unhide HS).size))
              have hcs := ((unhide HSB).kept (unhide HB2)).cell 4
              simp only [List.getElem?_toArray, List.getElem?_cons_zero, List.getElem?_cons_succ] at hcs
              have hS1 := hide hHeld
              clear hHeld
              refine hK.out _ _ ((unhide hS1).kept (unhide HB2)) (fun hHeld => ?_)
              clear hK Kx hS1
              refine wpAnyH_ready (rs := [5]) (by kernel_rfl) (by simp) ?_
              refine AllReadyH.cons rfl (fun Kx hK => ?_) AllReadyH.nil
              go_simp
              try go_wp2_with fail
              have hS1 := hide hHeld
              clear hHeld
              refine hK.out _ _ (unhide hS1) (fun hHeld => ?_)
              clear hK Kx hS1
              refine wpAnyH_take (i := 6) (v := ?v48) rfl (by kernel_rfl) (by kernel_rfl) (by kernel_rfl) (fun _ _ _ h => h) (Or.inl ⟨by rfl, ?h48⟩) (by assumption) ?_
              case h48 => (intro w0 hSw; clear hSw; go_simp; rw [if_neg (by omega)])
              try simp only [Act.put]
              refine wpAnyH_take (i := 10) (v := ?v49) rfl (by kernel_rfl) (by kernel_rfl) (by kernel_rfl) (fun _ _ _ h => h) (Or.inl ⟨by rfl, ?h49⟩) (by assumption) ?_
              case h49 => (intro w0 hSw; clear hSw; go_simp; rw [if_neg (by omega)])
              try simp only [Act.put]
              refine wpAnyH_ready (rs := [11]) (by kernel_rfl) (by simp) ?_
              refine AllReadyH.cons rfl (fun Kx hK => ?_) AllReadyH.nil
              go_simp
              try go_wp2_with fail
              refine hK.out _ _ (by assumption) (fun hHeld2 => ?_)
              clear hK Kx
              refine wpAnyH_done (by kernel_rfl) ?_ _
              try go_wp2_with fail
              go_meet
              case rel => exact ⟨rfl, hHeld2, unhide HE⟩
          · skip
            go_simp
            go_at_call 52
            refine (unhide HDEC K _ (by omega)).mono ?_; rintro e w2 ⟨rfl, hb2⟩
            have HB2 := hide hb2
            clear hb2
            try go_wp2_with fail
            have HE := hide (((unhide HBA).drew).trans ((unhide HB2).mono (by have := (unhide HBA).size; simpa using this)))
            have hS1 := hide hHeld
            clear hHeld
            refine hK.out _ _ ((unhide hS1).kept (unhide HB2)) (fun hHeld => ?_)
            clear hK Kx hS1
            refine wpAnyH_ready (rs := [1]) (by kernel_rfl) (by simp) ?_
            refine AllReadyH.cons rfl (fun Kx hK => ?_) AllReadyH.nil
            go_simp
            try go_wp2_with fail
            have hS1 := hide hHeld
            clear hHeld
            refine hK.out _ _ ((unhide hS1).alloc _) (fun hHeld => ?_)
            clear hK Kx hS1
            refine wpAnyH_take (i := 4) (v := ?v50) rfl (by kernel_rfl) (by kernel_rfl) (by kernel_rfl) (fun _ _ _ h => h) (Or.inl ⟨by rfl, ?h50⟩) (by assumption) ?_
            case h50 => (intro w0 hSw; clear hSw; go_simp; try (with_reducible rfl))
            try simp only [Act.put]
            refine wpAnyH_ready (rs := [5]) (by kernel_rfl) (by simp) ?_
            refine AllReadyH.cons rfl (fun Kx hK => ?_) AllReadyH.nil
            go_simp
            try go_wp2_with fail
            have hS1 := hide hHeld
            clear hHeld
            refine hK.out _ _ (unhide hS1) (fun hHeld => ?_)
            clear hK Kx hS1
            refine wpAnyH_take (i := 6) (v := ?v51) rfl (by kernel_rfl) (by kernel_rfl) (by kernel_rfl) (fun _ _ _ h => h) (Or.inl ⟨by rfl, ?h51⟩) (by assumption) ?_
            case h51 => (intro w0 hSw; clear hSw; go_simp; rw [if_neg (by omega)])
            try simp only [Act.put]
            refine wpAnyH_take (i := 10) (v := ?v52) rfl (by kernel_rfl) (by kernel_rfl) (by kernel_rfl) (fun _ _ _ h => h) (Or.inl ⟨by rfl, ?h52⟩) (by assumption) ?_
            case h52 => (intro w0 hSw; clear hSw; go_simp; rw [if_neg (by omega)])
            try simp only [Act.put]
            refine wpAnyH_ready (rs := [11]) (by kernel_rfl) (by simp) ?_
            refine AllReadyH.cons rfl (fun Kx hK => ?_) AllReadyH.nil
            go_simp
            try go_wp2_with fail
            refine hK.out _ _ (by assumption) (fun hHeld2 => ?_)
            clear hK Kx
            refine wpAnyH_done (by kernel_rfl) ?_ _
            try go_wp2_with fail
            go_meet
            case rel => exact ⟨rfl, hHeld2, (unhide HE).alloc (unhide HE).size _⟩
      case rest =>
        obtain ⟨rfl, hbx, hbz⟩ := hcut
        have HBZ := hide hbz
        have q0 := hbx.cell 0
        have q2 := hbx.cell 2
        simp only [List.getElem?_toArray, List.getElem?_cons_zero, List.getElem?_cons_succ] at q0 q2
        have HX : Hid (((P ++ bsL (opW op ++ [32])) ++ decS K).size ≤ 130) := by show _ ≤ _; rw [ByteArray.size_append, ByteArray.size_append]; omega
        clear hbz hbx c0 c1 c2
        generalize (P ++ bsL (opW op ++ [32])) ++ decS K = X at *
        have hx := unhide HX
        by_cases h1 : op = 1
        · subst h1
          go_wp2_with fail
          go_roundw
          case rel => exact ⟨k + 1, hlt, by go_num, by rw [unhide HEND]; rfl, unhide HBZ⟩
          case measure => simp [intOf]; omega
        · have hne : (op != 1) = true := by simpa using h1
          have HH1 := hide h1
          clear h1
          go_wp2_with fail
          refine (unhide HINT num _ (by omega) (by omega)).mono ?_; rintro e w2 ⟨rfl, hb2⟩
          have HE := hide ((unhide HBZ).trans (hb2.mono (unhide HBZ).size))
          clear hb2
          go_wp2_with fail
          go_roundw
          case rel => exact ⟨k + 1, hlt, by go_num, by rw [unhide HEND, if_neg (unhide HH1)], unhide HE⟩
          case measure => simp [intOf]; omega
    · go_wp2_with fail
      go_ret
      obtain rfl : k = N := by omega
      refine ⟨ret_val ?_, hb⟩
      rw [unhide HW, List.take_of_length_le (by rw [unhide HN]; exact Nat.le_refl _)]; rfl

end Go.Proofs.YtedlhepbbefikaaGreatDoor
