/- Books: how the laws size, copy and compare them. -/
import Derived.Test.YtpcbpliigplgoaaSdE
namespace Go.Proofs.Ytpcbpliigplgoaa
open Go.RowKit

theorem PrsAt.shape {w : World} {v : Value} {ps : List Pr} (h : PrsAt w v ps) : ∃ a cap, v = .slice a ps.length cap ∧ ps.length ≤ maxLen := by
  obtain ⟨a, cap, hv, h1, h2, _⟩ := h
  exact ⟨a, cap, hv, by omega⟩
theorem SdsAt.shape {w : World} {v : Value} {xs : List Sd} (h : SdsAt w v xs) : ∃ a cap, v = .slice a xs.length cap ∧ xs.length ≤ maxLen := by
  obtain ⟨a, cap, hv, h1, h2, _⟩ := h
  exact ⟨a, cap, hv, by omega⟩

theorem grownBy_setOne (w : World) (g j : Nat) (u : Value) : w.grownBy (w.setCell ⟨g, j, none⟩ u) (some g) := grownBy_set (grownBy_refl w (some g)) j u
theorem PrsAt.setFar {w : World} {v : Value} {ps : List Pr} (h : PrsAt w v ps) {g : Nat} (hne : v.ownBlock ≠ some g) (j : Nat) (u : Value) : PrsAt (w.setCell ⟨g, j, none⟩ u) v ps := h.far (grownBy_setOne w g j u) (.inr hne)

/-- What books hold. -/
structure BkAt (w : World) (u st sd : Value) (L : List Int) (ps : List Pr) (ss : List Sd) : Prop where
  ins : InsAt w u L
  prs : PrsAt w st ps
  sds : SdsAt w sd ss
theorem BkAt.kept {w w' : World} {u st sd : Value} {L : List Int} {ps : List Pr} {ss : List Sd} (h : BkAt w u st sd L ps ss) (hb : Below w.heap.size w w') : BkAt w' u st sd L ps ss := ⟨h.ins.kept hb, h.prs.kept hb, h.sds.kept hb⟩

/-- Small enough to be copied. -/
structure BkFit (L : List Int) (ps : List Pr) (ss : List Sd) : Prop where
  l : L.length ≤ 1048576
  p : ps.length ≤ 1048576
  s : ss.length ≤ 1048576
  f : SdFit ss

set_option maxRecDepth 100000 in
set_option maxHeartbeats 2000000 in
theorem szBooks_any (t v : Int) (u st sd : Value) (L : List Int) (ps : List Pr) (ss : List Sd) (w : World) (h : BkAt w u st sd L ps ss) :
    Calls Try.prog 10 #[.agg #[.int .i64 t, .int .i64 v, u, st, sd], .int .i64 1048576] w fun e w' => ∃ r : Int, e = .returned (.int .i64 r) ∧ (r < 0 ∨ (0 ≤ r ∧ BkFit L ps ss)) ∧ Below w.heap.size w w' := by
  have HH := hide h
  obtain ⟨a, c, rfl, hLm⟩ := h.ins.slice
  obtain ⟨a1, c1, rfl, hPm⟩ := h.prs.shape
  obtain ⟨a2, c2, rfl, hSm⟩ := h.sds.shape
  have bA := (Below.refl w.heap.size w).alloc (Nat.le_refl _) (.cells #[.int .i64 t, .int .i64 v, .slice a L.length c, .slice a1 ps.length c1, .slice a2 ss.length c2] 41)
  have HA := hide bA
  have HX := hide (Box.made w 41 #[.int .i64 t, .int .i64 v, .slice a L.length c, .slice a1 ps.length c1, .slice a2 ss.length c2])
  have HSD := hide (h.sds.kept bA)
  generalize hl : L.length = nl at *
  generalize hp : ps.length = np at *
  have EL := hide hl
  have EP := hide hp
  clear h bA hl hp
  by_cases h1 : (nl : Int) ≤ 1048576
  case neg =>
    go_enter Try.func10, Try.ntmps10
    go_wp2_with fail
    refine (szMap_no v a nl c _ hLm (by omega)).mono ?_; rintro e w1 ⟨rfl, hb1⟩
    go_wp2_with fail
    go_ret
    exact ⟨_, rfl, .inl (by omega), (unhide HA).trans (hb1.mono (unhide HA).size)⟩
  have hp1 : ¬ (1048576 - (nl : Int)) < 0 := by omega
  go_enter Try.func10, Try.ntmps10
  go_wp2_with fail
  refine (szMap_yes v a nl c _ h1).mono ?_; rintro e w1 ⟨rfl, hb1⟩
  have HB1 := hide ((unhide HA).trans (hb1.mono (unhide HA).size))
  have HX1 := hide ((unhide HX).kept hb1)
  have HS1 := hide ((unhide HSD).kept hb1)
  obtain ⟨-, -, -, q3, q4⟩ := (unhide HX1).five
  clear hb1 HX HSD
  go_wp2_with fail
  refine (szPrs_any a1 np c1 (1048576 - (nl : Int)) _ (by omega) (by omega) hPm).mono ?_; rintro e w2 ⟨rfl, rfl⟩
  by_cases h2 : (np : Int) ≤ 1048576 - (nl : Int)
  case neg =>
    rw [if_neg h2]
    go_wp2_with fail
    go_ret
    exact ⟨_, rfl, .inl (by omega), unhide HB1⟩
  rw [if_pos h2]
  have hp2 : ¬ (1048576 - (nl : Int) - (np : Int)) < 0 := by omega
  go_wp2_with fail
  refine (szSds_any _ ss (1048576 - (nl : Int) - (np : Int)) _ (unhide HS1) (by omega) (by omega)).mono ?_; rintro e w3 ⟨r, rfl, hr, hb3⟩
  have HR := hide hr
  have HB3 := hide ((unhide HB1).trans (hb3.mono (unhide HB1).size))
  clear hr hb3
  by_cases hr0 : r < 0
  · go_wp2_with fail
    go_ret
    exact ⟨_, rfl, .inl (by omega), unhide HB3⟩
  · go_wp2_with fail
    go_ret
    refine ⟨_, rfl, .inr ⟨by omega, ?_⟩, unhide HB3⟩
    rcases unhide HR with h | ⟨_, hs, hf⟩
    · omega
    · exact ⟨by rw [unhide EL]; omega, by rw [unhide EP]; omega, hs, hf⟩

end Go.Proofs.Ytpcbpliigplgoaa
