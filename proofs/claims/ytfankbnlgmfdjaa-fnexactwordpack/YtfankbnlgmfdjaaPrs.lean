/- Pairs: how the law copies, sizes and compares slices of them. -/
import Derived.Test.YtfankbnlgmfdjaaLeaf
import Derived.Test.YtfankbnlgmfdjaaBase2
namespace Go.Proofs.Ytfankbnlgmfdjaa
open Go.RowKit

set_option maxHeartbeats 400000 in
theorem szPrs_any (a : Option Addr) (n cap : Nat) (L : Int) (w : World) (hL : 0 ≤ L) (hL' : L ≤ 1048576) (hn : n ≤ maxLen) :
    Calls Try.prog 58 #[.slice a n cap, .int .i64 L] w fun e w' => e = .returned (.int .i64 (if (n : Int) ≤ L then L - (n : Int) else -1)) ∧ w' = w := by
  unfold maxLen at hn
  by_cases h : (n : Int) ≤ L
  all_goals
    go_enter Try.func58, Try.ntmps58
    go_wp2
    go_ret
    exact ⟨rfl, rfl⟩

/-- A struct of three numbers as a value. -/
abbrev prV (x : Pr) : Value := .agg #[.int .i64 x.key, .int .i64 x.val]

set_option maxHeartbeats 400000 in
theorem toPr_any (d k : Int) (w : World) :
    Calls Try.prog 95 #[.agg #[.int .i64 d, .int .i64 k]] w fun e w' => e = .returned (.agg #[.int .i64 d, .int .i64 k]) ∧ Below w.heap.size w w' := by
  go_enter Try.func95, Try.ntmps95
  go_wp2
  refine bodyPost_ret (v := .agg #[.int .i64 d, .int .i64 k]) (by simp [results, Try.results95, go_sem]) rfl ⟨rfl, ?_⟩
  repeat (first | exact Below.refl _ _ | (refine Below.alloc ?_ (by simp <;> omega) _))

def Pr.tup (x : Pr) : Int × Int := (x.key, x.val)
theorem Pr.tup_inj {x y : Pr} (h : x.tup = y.tup) : x = y := by cases x; cases y; simp_all [Pr.tup]
def eqPr (a b : Pr) : Bool := decide (a.tup = b.tup)

set_option maxHeartbeats 400000 in
theorem eqPr_any (x y : Pr) (w : World) :
    Calls Try.prog 96 #[.agg #[.int .i64 x.key, .int .i64 x.val], .agg #[.int .i64 y.key, .int .i64 y.val]] w fun e w' => e = .returned (.bool (eqPr x y)) ∧ Below w.heap.size w w' := by
  obtain ⟨a, b⟩ := x
  obtain ⟨a', b'⟩ := y
  go_enter Try.func96, Try.ntmps96
  go_wp2
  all_goals
    go_ret
    refine ⟨by simp_all [eqPr, Pr.tup], ?_⟩
  all_goals repeat (first | exact Below.refl _ _ | (refine Below.alloc ?_ (by simp <;> omega) _))

theorem Try.infoPr : (Try.prog.info? 54).map (fun i => (i.zero, i.size, i.bytes)) = some (some (.agg #[.int .i64 0, .int .i64 0]), 2, 16) := by kernel_rfl

set_option maxHeartbeats 400000 in
theorem toPrs_any (v : Value) (ps : List Pr) (w : World) (hv : PrsAt w v ps) (hn : ps.length ≤ 1048576) :
    Calls Try.prog 61 #[v] w fun e w' => e = .returned (.slice (some ⟨w.heap.size, 0, none⟩) ps.length ps.length) ∧ PrsAt w' (.slice (some ⟨w.heap.size, 0, none⟩) ps.length ps.length) ps ∧ Room w' w.heap.size (ps.length * 2) ∧ w.heap.size < w'.heap.size ∧ Below w.heap.size w w' := by
  obtain ⟨a, cap, rfl, h1, h2, h3⟩ := hv
  obtain ⟨i0, hi, hz0, hz1, hz2⟩ := info_parts Try.infoPr
  generalize hN : ps.length = N at *
  have hmk : ∀ w : World, (Instr.makeSlice 24 (.int .i64 (N : Int)) (.int .i64 (N : Int))).run Try.prog w = .ok (.slice (some ⟨w.heap.size, 0, none⟩) N N) (w.alloc (.cells (madeCells #[.int .i64 0, .int .i64 0] (N * 2)) 54)) := by
    intro w
    have := run_make (P := Try.prog) w 24 54 i0 (.agg #[.int .i64 0, .int .i64 0]) Try.underlying24 hi hz0 .i64 .i64 N N (by omega) (by omega) (by rw [hz2]; omega) (by omega)
    simpa [hz1, Value.cells] using this
  clear hi hz0 hz1 hz2 i0
  have HN : Hid (ps.length = N) := hN
  clear hN
  go_enter Try.func61, Try.ntmps61
  go_wp2
  go_loopw [4] (fun i wr => ∃ k : Nat, k ≤ N ∧ i = .int .i64 k ∧ Below w.heap.size w wr ∧ w.heap.size < wr.heap.size ∧ Room wr w.heap.size (N * 2) ∧ PrCells wr w.heap.size 0 k ps) (fun i _ => N - (intOf i).toNat)
  case atStart => exact ⟨0, Nat.zero_le _, rfl, (Below.refl _ _).alloc (Nat.le_refl _) _, by simp, Room.made _ _ _ _, fun i hi => absurd hi (Nat.not_lt_zero _)⟩
  case round =>
    obtain ⟨k, hk, rfl, hb, hsz, hroom, hcs⟩ := hrel
    by_cases hlt : k < N
    · obtain ⟨b, off, rfl, hc⟩ : ∃ b off, a = some ⟨b, off, none⟩ ∧ PrCells w b off N ps := by
        rcases h3 with h3 | h3
        · have := HN.out; subst h3; simp at this; omega
        · exact h3
      obtain ⟨c0, c1⟩ := (hc.kept hb) k hlt
      obtain ⟨⟨u0, r0⟩, f0⟩ := hroom (k * 2) (by omega)
      obtain ⟨⟨u1, r1⟩, f1⟩ := hroom (k * 2 + 1) (by omega)
      generalize hx : ps.getD k Pr.z = x at c0 c1
      have HX : Hid (ps.getD k Pr.z = x) := hx
      clear h3 hmk hc hx
      go_wp2_with (go_at_call 95; refine (toPr_any _ _ _).mono ?_; rintro e w' ⟨rfl, hb1⟩; have r0' := cell_kept hb1 r0; have r1' := cell_kept hb1 r1; have f0' := (hb1.frozen (p := ⟨w.heap.size, k * 2, none⟩) (lt_of_cell r0)).trans f0; have f1' := (hb1.frozen (p := ⟨w.heap.size, k * 2 + 1, none⟩) (lt_of_cell r1)).trans f1)
      go_roundw
      case rel =>
        have hr1 := hroom.kept hb1
        exact ⟨k + 1, hlt, by go_num, ((hb.trans (hb1.mono hb.size)).setCell (Nat.le_refl _) _).setCell (Nat.le_refl _) _, by have := hb1.size; simp [World.setCell]; omega, (hr1.set _ _).set _ _, (hcs.kept hb1).push hr1 (by omega) HX.out⟩
      case measure => simp [intOf]; omega
    · go_wp2
      go_ret
      obtain rfl : k = N := by omega
      have hN := HN.out
      exact ⟨rfl, ⟨_, _, by rw [hN], by omega, by unfold maxLen; omega, .inr ⟨_, _, rfl, by rw [hN]; exact hcs⟩⟩, hroom, hsz, hb⟩

end Go.Proofs.Ytfankbnlgmfdjaa
