/- Statements: how the law copies, sizes and compares slices of them. -/
import Derived.Test.YtimnhgncnhmgcaaLeaf
namespace Go.Proofs.Ytimnhgncnhmgcaa
open Go.RowKit

set_option maxHeartbeats 400000 in
theorem szSts_any (a : Option Addr) (n cap : Nat) (w : World) (hn : n ≤ maxLen) :
    Calls Try.prog 24 #[.slice a n cap, .int .i64 1048576] w fun e w' => e = .returned (.int .i64 (if n ≤ 1048576 then 1048576 - (n : Int) else -1)) ∧ w' = w := by
  unfold maxLen at hn
  by_cases h : n ≤ 1048576
  all_goals
    go_enter Try.func24, Try.ntmps24
    go_wp2
    go_ret
    exact ⟨rfl, rfl⟩

/-- A struct of three numbers as a value. -/
abbrev stV (x : St) : Value := .agg #[.int .i64 x.op, .int .i64 x.key, .int .i64 x.num]

set_option maxHeartbeats 400000 in
theorem toSt_any (d k n : Int) (w : World) :
    Calls Try.prog 55 #[.agg #[.int .i64 d, .int .i64 k, .int .i64 n]] w fun e w' => e = .returned (.agg #[.int .i64 d, .int .i64 k, .int .i64 n]) ∧ Below w.heap.size w w' := by
  go_enter Try.func55, Try.ntmps55
  go_wp2
  refine bodyPost_ret (v := .agg #[.int .i64 d, .int .i64 k, .int .i64 n]) (by simp [results, Try.results55, go_sem]) rfl ⟨rfl, ?_⟩
  repeat (first | exact Below.refl _ _ | (refine Below.alloc ?_ (by simp <;> omega) _))

def St.tup (x : St) : Int × Int × Int := (x.op, x.key, x.num)
theorem St.tup_inj {x y : St} (h : x.tup = y.tup) : x = y := by cases x; cases y; simp_all [St.tup]
def eqSt (a b : St) : Bool := decide (a.tup = b.tup)

set_option maxHeartbeats 400000 in
theorem eqSt_any (x y : St) (w : World) :
    Calls Try.prog 56 #[.agg #[.int .i64 x.op, .int .i64 x.key, .int .i64 x.num], .agg #[.int .i64 y.op, .int .i64 y.key, .int .i64 y.num]] w fun e w' => e = .returned (.bool (eqSt x y)) ∧ Below w.heap.size w w' := by
  obtain ⟨a, b, c⟩ := x
  obtain ⟨a', b', c'⟩ := y
  go_enter Try.func56, Try.ntmps56
  go_wp2
  all_goals
    go_ret
    refine ⟨by simp_all [eqSt, St.tup], ?_⟩
  all_goals repeat (first | exact Below.refl _ _ | (refine Below.alloc ?_ (by simp <;> omega) _))

theorem Try.infoSt : (Try.prog.info? 33).map (fun i => (i.zero, i.size, i.bytes)) = some (some (.agg #[.int .i64 0, .int .i64 0, .int .i64 0]), 3, 24) := by kernel_rfl

set_option maxHeartbeats 400000 in
theorem toSts_any (v : Value) (ss : List St) (w : World) (hv : StsAt w v ss) (hn : ss.length ≤ 1048576) :
    Calls Try.prog 26 #[v] w fun e w' => e = .returned (.slice (some ⟨w.heap.size, 0, none⟩) ss.length ss.length) ∧ StsAt w' (.slice (some ⟨w.heap.size, 0, none⟩) ss.length ss.length) ss ∧ Room w' w.heap.size (ss.length * 3) ∧ w.heap.size < w'.heap.size ∧ Below w.heap.size w w' := by
  obtain ⟨a, cap, rfl, h1, h2, h3⟩ := hv
  obtain ⟨i0, hi, hz0, hz1, hz2⟩ := info_parts Try.infoSt
  generalize hN : ss.length = N at *
  have hmk : ∀ w : World, (Instr.makeSlice 23 (.int .i64 (N : Int)) (.int .i64 (N : Int))).run Try.prog w = .ok (.slice (some ⟨w.heap.size, 0, none⟩) N N) (w.alloc (.cells (madeCells #[.int .i64 0, .int .i64 0, .int .i64 0] (N * 3)) 33)) := by
    intro w
    have := run_make (P := Try.prog) w 23 33 i0 (.agg #[.int .i64 0, .int .i64 0, .int .i64 0]) Try.underlying23 hi hz0 .i64 .i64 N N (by omega) (by omega) (by rw [hz2]; omega) (by omega)
    simpa [hz1, Value.cells] using this
  clear hi hz0 hz1 hz2 i0
  have HN : Hid (ss.length = N) := hN
  clear hN
  go_enter Try.func26, Try.ntmps26
  go_wp2
  go_loopw [4] (fun i wr => ∃ k : Nat, k ≤ N ∧ i = .int .i64 k ∧ Below w.heap.size w wr ∧ w.heap.size < wr.heap.size ∧ Room wr w.heap.size (N * 3) ∧ StCells wr w.heap.size 0 k ss) (fun i _ => N - (intOf i).toNat)
  case atStart => exact ⟨0, Nat.zero_le _, rfl, (Below.refl _ _).alloc (Nat.le_refl _) _, by simp, Room.made _ _ _ _, fun i hi => absurd hi (Nat.not_lt_zero _)⟩
  case round =>
    obtain ⟨k, hk, rfl, hb, hsz, hroom, hcs⟩ := hrel
    by_cases hlt : k < N
    · obtain ⟨b, off, rfl, hc⟩ : ∃ b off, a = some ⟨b, off, none⟩ ∧ StCells w b off N ss := by
        rcases h3 with h3 | h3
        · have := HN.out; subst h3; simp at this; omega
        · exact h3
      obtain ⟨c0, c1, c2⟩ := (hc.kept hb) k hlt
      obtain ⟨⟨u0, r0⟩, f0⟩ := hroom (k * 3) (by omega)
      obtain ⟨⟨u1, r1⟩, f1⟩ := hroom (k * 3 + 1) (by omega)
      obtain ⟨⟨u2, r2⟩, f2⟩ := hroom (k * 3 + 2) (by omega)
      generalize hx : ss.getD k St.z = x at c0 c1 c2
      have HX : Hid (ss.getD k St.z = x) := hx
      clear h3 hmk hc hx
      go_wp2_with (go_at_call 55; refine (toSt_any _ _ _ _).mono ?_; rintro e w' ⟨rfl, hb1⟩; have r0' := cell_kept hb1 r0; have r1' := cell_kept hb1 r1; have r2' := cell_kept hb1 r2; have f0' := (hb1.frozen (p := ⟨w.heap.size, k * 3, none⟩) (lt_of_cell r0)).trans f0; have f1' := (hb1.frozen (p := ⟨w.heap.size, k * 3 + 1, none⟩) (lt_of_cell r1)).trans f1; have f2' := (hb1.frozen (p := ⟨w.heap.size, k * 3 + 2, none⟩) (lt_of_cell r2)).trans f2)
      go_roundw
      case rel =>
        have hr1 := hroom.kept hb1
        exact ⟨k + 1, hlt, by go_num, (((hb.trans (hb1.mono hb.size)).setCell (Nat.le_refl _) _).setCell (Nat.le_refl _) _).setCell (Nat.le_refl _) _, by have := hb1.size; simp [World.setCell]; omega, ((hr1.set _ _).set _ _).set _ _, (hcs.kept hb1).push hr1 (by omega) HX.out⟩
      case measure => simp [intOf]; omega
    · go_wp2
      go_ret
      obtain rfl : k = N := by omega
      have hN := HN.out
      exact ⟨rfl, ⟨_, _, by rw [hN], by omega, by unfold maxLen; omega, .inr ⟨_, _, rfl, by rw [hN]; exact hcs⟩⟩, hroom, hsz, hb⟩

end Go.Proofs.Ytimnhgncnhmgcaa
