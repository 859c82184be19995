/- When statements are a deal: the specification's answer and the program's. -/
import Derived.Test.YtedlhepbbefikaaGreatDoorSts2
namespace Go.Proofs.YtedlhepbbefikaaGreatDoor
open Go.RowKit

def stOk (x : St) : Bool := inB x.op 1 4 && inB x.key 0 31 && valB x.num && !((x.op == 1) && (x.num != 0))
def dealOk (ss : List St) : Bool := decide (1 ≤ ss.length) && decide (ss.length ≤ 6) && ss.all stOk

theorem tests (x : St) :
    (stOk x = false ∧ ((inB x.op 1 4 = false) ∨ (inB x.op 1 4 = true ∧ inB x.key 0 31 = false) ∨ (inB x.op 1 4 = true ∧ inB x.key 0 31 = true ∧ valB x.num = false) ∨
      (inB x.op 1 4 = true ∧ inB x.key 0 31 = true ∧ valB x.num = true ∧ (x.op == 1) = true ∧ (x.num != 0) = true))) ∨
    (stOk x = true ∧ ((inB x.op 1 4 = true ∧ inB x.key 0 31 = true ∧ valB x.num = true ∧ (x.op == 1) = false) ∨
      (inB x.op 1 4 = true ∧ inB x.key 0 31 = true ∧ valB x.num = true ∧ (x.op == 1) = true ∧ (x.num != 0) = false))) := by
  unfold stOk
  cases inB x.op 1 4 <;> cases inB x.key 0 31 <;> cases valB x.num <;> cases (x.op == 1) <;> cases (x.num != 0) <;> simp

set_option maxHeartbeats 1000000 in
theorem specDealOk_any (v : Value) (ss : List St) (w : World) (hv : StsAt w v ss) :
    Calls Tryz.prog 51 #[v] w fun e w' => e = .returned (.bool (dealOk ss)) ∧ Below w.heap.size w w' := by
  obtain ⟨a, cap, rfl, h1, h2, h3⟩ := hv
  generalize hN : ss.length = N at *
  have HN : Hid (ss.length = N) := hN
  clear hN
  unfold maxLen at h2
  by_cases hlo : (N : Int) < 1
  · go_enter Tryz.func51, Tryz.ntmps51
    go_wp2
    go_ret
    exact ⟨ret_bool (by have := HN.out; simp [dealOk]; omega), Below.refl _ _⟩
  by_cases hhi : (6 : Int) < N
  · go_enter Tryz.func51, Tryz.ntmps51
    go_wp2
    go_ret
    exact ⟨ret_bool (by have := HN.out; simp [dealOk]; omega), Below.refl _ _⟩
  go_enter Tryz.func51, Tryz.ntmps51
  go_wp2
  go_loopw [3] (fun i wr => ∃ k : Nat, k ≤ N ∧ i = .int .i64 k ∧ Below w.heap.size w wr ∧ (ss.take k).all stOk = true) (fun i _ => N - (intOf i).toNat)
  case atStart => exact ⟨0, Nat.zero_le _, rfl, Below.refl _ _, by simp⟩
  case round =>
    obtain ⟨k, hk, rfl, hb, htk⟩ := hrel
    have HT : Hid ((ss.take k).all stOk = true) := htk
    clear htk
    by_cases hlt : k < N
    · obtain ⟨b, off, rfl, hc⟩ : ∃ b off, a = some ⟨b, off, none⟩ ∧ StCells w b off N ss := by
        rcases h3 with h3 | h3
        · have := HN.out; subst h3; simp at this; omega
        · exact h3
      obtain ⟨c0, c1, c2⟩ := (hc.kept hb) k hlt
      generalize hx : ss.getD k St.z = x at c0 c1 c2
      have HX : Hid (ss.getD k St.z = x) := hx
      clear h3 hc hx
      rcases tests x with ⟨ho, ht⟩ | ⟨ho, ht⟩
      · have HO : Hid (stOk x = false) := ho
        clear ho
        rcases ht with t1 | ⟨t1, t2⟩ | ⟨t1, t2, t3⟩ | ⟨t1, t2, t3, t4, t5⟩
        all_goals
          go_wp2_with (first | (go_at_call 39; refine (l6In_any _ _ _ _).mono ?_; rintro e w' ⟨rfl, rfl⟩) | (go_at_call 72; refine (l1Val_any _ _).mono ?_; rintro e w' ⟨rfl, rfl⟩))
          go_ret
          refine ⟨ret_bool ?_, hb.alloc hb.size _⟩
          have h1 := HX.out; have h2 := HO.out; have h3 := HN.out
          unfold dealOk
          rw [all_false_at (d := St.z) (k := k) (by omega) (by rw [h1]; exact h2)]; simp
      · have HO : Hid (stOk x = true) := ho
        clear ho
        rcases ht with ⟨t1, t2, t3, t4⟩ | ⟨t1, t2, t3, t4, t5⟩
        all_goals
          go_wp2_with (first | (go_at_call 39; refine (l6In_any _ _ _ _).mono ?_; rintro e w' ⟨rfl, rfl⟩) | (go_at_call 72; refine (l1Val_any _ _).mono ?_; rintro e w' ⟨rfl, rfl⟩))
          go_roundw
          case rel =>
            have h1 := HX.out; have h2 := HO.out; have h3 := HN.out
            exact ⟨k + 1, hlt, by go_num, hb.alloc hb.size _, all_take_step (d := St.z) HT.out (by omega) (by rw [h1]; exact h2)⟩
          case measure => simp [intOf]; omega
    · go_wp2
      go_ret
      refine ⟨ret_bool ?_, hb⟩
      obtain rfl : k = N := by omega
      have h1 := HT.out; have h2 := HN.out
      rw [List.take_of_length_le (by omega)] at h1
      simp [dealOk, h1]; omega

end Go.Proofs.YtedlhepbbefikaaGreatDoor
