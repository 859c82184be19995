/- A deal and values are drawn. -/
import Derived.Test.YtimnhgncnhmgcaaDeal3
namespace Go.Proofs.Ytimnhgncnhmgcaa
open Go.RowKit

theorem blk_sts {w : World} {v : Value} {ss : List St} {base : Nat} (h : (v = .slice none 0 0 ∧ ss = []) ∨ ∃ g cap, v = .slice (some ⟨g, 0, none⟩) ss.length cap ∧ base ≤ g ∧ g < w.heap.size ∧ Room w g (ss.length * 3)) :
    v.ownBlock = none ∨ ∃ g, v.ownBlock = some g ∧ base ≤ g ∧ g < w.heap.size := by
  rcases h with ⟨rfl, _⟩ | ⟨g, cap, rfl, hl, hlt, _⟩
  · exact .inl rfl
  · exact .inr ⟨g, rfl, hl, hlt⟩

theorem drawRun_any (v : Value) (n : Nat) (w : World) (hv : BytesAt w v n) :
    Calls Try.prog 15 #[v] w fun e w' => ∃ r s ss ps, e = .returned (.tuple #[r, s]) ∧ StsAt w' r ss ∧ PrsAt w' s ps ∧ ss.length ≤ 8 ∧ ps.length ≤ 20 ∧ Below w.heap.size w w' := by
  go_enter Try.func15, Try.ntmps15
  go_wp2_with fail
  refine (open_any v n w hv).mono ?_; rintro e w1 ⟨rfl, hr1, h1, hs1⟩
  go_wp2_with fail
  refine (drawDeal_any w.heap.size 0 w1 hr1 (by omega)).mono ?_; rintro e w2 ⟨r, ss, p2, rfl, ho2, hl2, hr2, hp2, h2⟩
  obtain ⟨hx2, hox⟩ := owned_sts ho2
  have hbx := blk_sts hox
  clear ho2 hox
  go_wp2_with fail
  refine (drawPairs_any w.heap.size p2 w2 hr2 (by omega)).mono ?_; rintro e w3 ⟨s, ps, p3, rfl, ho3, hl3, hr3, hp3, h3⟩
  obtain ⟨hy3, -⟩ := owned_prs ho3
  go_wp2_with fail
  go_ret2
  refine ⟨r, s, ss, ps, rfl, hx2.far h3 ?_, hy3, hl2, hl3, ?_⟩
  · rcases hbx with h | ⟨g, hg, hlo, _⟩
    · exact .inl h
    · right; rw [hg]; intro e; simp at e; omega
  · have b1 := h1.grown h2 (by omega) (fun k hk => by simp at hk; omega)
    exact b1.grown h3 (by have := h2.size; omega) (fun k hk => by simp at hk; omega)

end Go.Proofs.Ytimnhgncnhmgcaa
