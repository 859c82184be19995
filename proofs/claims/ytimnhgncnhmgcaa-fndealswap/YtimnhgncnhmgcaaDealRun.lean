/- A deal that is done, as the program answers it. -/
import Derived.Test.YtimnhgncnhmgcaaRun
namespace Go.Proofs.Ytimnhgncnhmgcaa
open Go.RowKit

theorem runAt_nil (w : World) (base : Nat) (k : Int) : RunAt w base (.error k) (.slice none 0 0) (.slice none 0 0) := ⟨World.ownsRow_nil _ _ _ _, World.ownsRow_nil _ _ _ _, .inl rfl⟩

theorem RunAt.base {w : World} {base base' : Nat} {R : Except Int Sta} {a b : Value} (h : RunAt w base R a b) (hb : base' ≤ base) : RunAt w base' R a b := ⟨ownsRow_base h.1 hb, ownsRow_base h.2.1 hb, h.2.2⟩

set_option maxRecDepth 100000 in
set_option maxHeartbeats 1000000 in
theorem implRun_any (v u : Value) (ss : List St) (ps : List Pr) (w : World) (hv : StsAt w v ss) (hu : PrsAt w u ps) :
    Calls Try.prog 17 #[v, u] w fun e w' => ∃ a b, e = .returned (.tuple #[.int .i64 (codeM (dealM ss ps)), a, b]) ∧ RunAt w' w.heap.size (dealM ss ps) a b ∧ Below w.heap.size w w' := by
  have HU := hide hu
  have HV := hide hv
  clear hu hv
  cases ha : dealOk ss
  · have HP : Hid (dealM ss ps = .error 9) := by show dealM ss ps = _; unfold dealM; rw [ha]; rfl
    have hso := stepsOf_any v ss w (unhide HV)
    rw [ha] at hso
    have HSO := hide hso
    clear hso ha
    generalize dealM ss ps = R at *
    go_enter Try.func17, Try.ntmps17
    go_wp2_with fail
    refine (unhide HSO).mono ?_; rintro e w1 ⟨r, rfl, h1, h2, hb1⟩
    have h2' := h2 trivial
    subst h2'
    clear h1 h2
    go_wp2_with fail
    go_ret3
    rw [unhide HP]
    exact ⟨_, _, rfl, runAt_nil _ _ 9, hb1⟩
  cases hb : inForm ps
  · have HP : Hid (dealM ss ps = .error 9) := by show dealM ss ps = _; unfold dealM; rw [hb]; simp
    have hso := stepsOf_any v ss w (unhide HV)
    rw [ha] at hso
    have HSO := hide hso
    clear hso ha
    generalize dealM ss ps = R at *
    go_enter Try.func17, Try.ntmps17
    go_wp2_with fail
    refine (unhide HSO).mono ?_; rintro e w1 ⟨r, rfl, h1, h2, hb1⟩
    clear h1 h2
    go_wp2_with fail
    refine (pairsInForm_any _ ps _ ((unhide HU).kept hb1)).mono ?_; rintro e w2 ⟨rfl, hb2⟩
    go_wp2_with fail
    go_ret3
    rw [unhide HP]
    exact ⟨_, _, rfl, runAt_nil _ _ 9, hb1.trans (hb2.mono hb1.size)⟩
  have HP : Hid (dealM ss ps = runM ss (startM ps)) := by show dealM ss ps = _; unfold dealM; rw [ha, hb]; rfl
  have hso := stepsOf_any v ss w (unhide HV)
  rw [ha] at hso
  have HSO := hide hso
  have HA := hide ha
  clear hso ha
  generalize dealM ss ps = R at *
  go_enter Try.func17, Try.ntmps17
  go_wp2_with fail
  refine (unhide HSO).mono ?_; rintro e w1 ⟨r, rfl, h1, h2, hb1⟩
  have HO := hide (h1 trivial)
  clear h1 h2
  go_wp2_with fail
  refine (pairsInForm_any _ ps _ ((unhide HU).kept hb1)).mono ?_; rintro e w2 ⟨rfl, hb2⟩
  have hb12 := hb1.trans (hb2.mono hb1.size)
  go_wp2_with fail
  refine (runSteps_any r u w.heap.size ss ps _ (ownsRow_below (unhide HO) hb2) ((unhide HU).kept hb12) (unhide HA) hb).mono ?_; rintro e w3 ⟨a, b, rfl, hR, hb3⟩
  rw [← unhide HP] at hR ⊢
  have HRA := hide hR
  clear hR
  go_wp2_with fail
  go_ret3
  exact ⟨_, _, rfl, (unhide HRA).base hb12.size, hb12.trans (hb3.mono hb12.size)⟩

end Go.Proofs.Ytimnhgncnhmgcaa
