/- Maps: the specification's copy, and a move. -/
import Derived.Test.YtfankbnlgmfdjaaMapS
import Derived.Test.YtfankbnlgmfdjaaResK
namespace Go.Proofs.Ytfankbnlgmfdjaa
open Go.RowKit

theorem ownIns_at {w : World} {b off n : Nat} {xs : List Int} (h : InCells w b off n xs) (hl : xs.length = n) : ∀ (j : Nat) (u : Value), (xs.map (Value.int .i64))[j]? = some u → w.cell? ((⟨b, off, none⟩ : Addr).add j) = some u := fun j u hu => by
  have hj : j < xs.length := by
    rcases Nat.lt_or_ge j xs.length with h1 | h1
    · exact h1
    · simp [List.getElem?_eq_none h1] at hu
  have e : (⟨b, off, none⟩ : Addr).add j = ⟨b, off + j, none⟩ := by unfold Addr.add; split <;> simp_all
  rw [e, h j (by omega), ← hu]
  simp [List.getD, hj]

end Go.Proofs.Ytfankbnlgmfdjaa
