/- The draws' own world: a cell that holds the reader. -/
import Derived.Test.YtmikdkdgpomiaaaDoorToll2
namespace Go.Proofs.YtmikdkdgpomiaaaDoor
open Go.RowKit

set_option maxRecDepth 100000 in
set_option maxHeartbeats 1000000 in
theorem sim_any (B : Nat) (w : World) :
    Calls Tryd.prog 44 #[.pointer (some ⟨B, 0, none⟩)] w fun e w' => ∃ g, e = .returned (.pointer (some ⟨g, 0, none⟩)) ∧ w.heap.size ≤ g ∧ w'.cell? ⟨g, 0, none⟩ = some (.pointer (some ⟨B, 0, none⟩)) ∧ Below w.heap.size w w' := by
  go_enter Tryd.func44, Tryd.ntmps44
  go_wp2_with fail
  refine (tollStart_any _).mono ?_; rintro e w1 ⟨v, rfl, hv, h1⟩
  unfold tollC
  have hc : v.cells = #[v] := by cases v <;> first | rfl | simp [Value.oneCell'] at hv
  go_wp2_with fail
  go_ret
  refine ⟨_, rfl, h1.size, ?_, h1.alloc h1.size _⟩
  rw [World.cell?_alloc_at _ _ _ _ rfl]; rfl

end Go.Proofs.YtmikdkdgpomiaaaDoor
