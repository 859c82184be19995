/- Numbers in decimals: the specification's way, below 0 too. -/
import Derived.Test.YtedlhepbbefikaaGreatDoorDcS
namespace Go.Proofs.YtedlhepbbefikaaGreatDoor
open Go.RowKit

def intS (n : Int) : ByteArray := ⟨(Lib.itoa n).toArray⟩
theorem intS_nonneg {n : Int} (h : 0 ≤ n) : intS n = decS n.toNat := by unfold intS decS Lib.itoa; rw [if_neg (by omega)]
theorem intS_neg {n : Int} (h : n < 0) : intS n = ⟨#[45]⟩ ++ decS (-n).toNat := by
  unfold intS decS Lib.itoa
  rw [if_pos h, show n.natAbs = (-n).toNat by omega]
  apply ByteArray.ext; simp

set_option maxRecDepth 100000 in
set_option maxHeartbeats 1000000 in
theorem l1Int_any (n : Int) (w : World) (h0 : -1000000 ≤ n) (h1 : n ≤ 1000000) :
    Calls Tryz.prog 50 #[.int .i64 n] w fun e w' => e = .returned (.string (intS n)) ∧ Below w.heap.size w w' := by
  by_cases hn : n < 0
  · obtain ⟨m, hm⟩ : ∃ m : Nat, m = (-n).toNat := ⟨_, rfl⟩
    have e1 : -n = (m : Int) := by omega
    have hs := decS_size 6 m (by omega)
    have HD := hide (fun ww => l6Dec_any 6 m ww (by omega) (by omega))
    rw [intS_neg hn, ← hm]
    rw [← e1] at HD
    clear e1 hm
    go_enter Tryz.func50, Tryz.ntmps50
    go_wp2_with fail
    refine (unhide HD _).mono ?_; rintro e w1 ⟨rfl, hb⟩
    have hsz : ¬ 9223372036854775807 < 1 + (decS m).size := by omega
    go_wp2_with fail
    go_ret
    exact ⟨rfl, hb⟩
  · obtain ⟨m, rfl⟩ := Int.eq_ofNat_of_zero_le (by omega : 0 ≤ n)
    rw [intS_nonneg (by omega)]
    simp only [Int.toNat_natCast]
    have HD := hide (fun ww => l6Dec_any 6 m ww (by omega) (by omega))
    go_enter Tryz.func50, Tryz.ntmps50
    go_wp2_with fail
    refine (unhide HD _).mono ?_; rintro e w1 ⟨rfl, hb⟩
    go_wp2_with fail
    go_ret
    exact ⟨rfl, hb⟩

end Go.Proofs.YtedlhepbbefikaaGreatDoor
