/- The law FnExactDealRead answers true. -/
import Derived.Test.YtedlhepbbefikaaGreatDoorDcS6
import Derived.Test.YtedlhepbbefikaaGreatDoorStK
namespace Go.Proofs.YtedlhepbbefikaaGreatDoor
open Go.RowKit

/-- What DealRead answers, told by the deal and whether there is one. -/
theorem DRes.tell {e : Ending} {w : World} {base : Nat} {t : List UInt8} (h : DRes e w base t) :
    ∃ r, e = .returned (.tuple #[r, .bool (readL t).isSome]) ∧ w.ownsRow base 35 3 r ((readL t).getD []).length (((readL t).getD []).flatMap stE) := by
  rcases h with ⟨D, r, h1, h2, h3⟩ | ⟨r, h1, h2, h3⟩
  · rw [h1]; exact ⟨r, h2, h3⟩
  · rw [h1]; exact ⟨r, h2, h3⟩
theorem readD_len (t : List UInt8) : ((readL t).getD []).length ≤ 6 := by
  cases h : readL t with
  | none => simp
  | some D => exact (dealOk_num (readL_some h).2.1).2

end Go.Proofs.YtedlhepbbefikaaGreatDoor
