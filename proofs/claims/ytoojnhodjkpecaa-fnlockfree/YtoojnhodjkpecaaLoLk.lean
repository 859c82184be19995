/- The laws' own comparisons of holds and of locks, where both are the same. -/
import Derived.Test.YtoojnhodjkpecaaLkAE
import Derived.Laws.StructEq
import Derived.ChangeKeysEq
namespace Go.Proofs.Ytoojnhodjkpecaa
open Go.RowKit Go.Shelf

theorem neq_hd (a b : Hd) : ∀ ws, (binOp .neq 27 (.agg #[.int .i64 a.stamp, .int .i64 a.try_, .bool a.share, .bool a.firm]) (.agg #[.int .i64 b.stamp, .int .i64 b.try_, .bool b.share, .bool b.firm])).run Try.prog ws = .ok (.bool (!eqHd a b)) ws := by
  intro ws
  rw [eqHd_and]
  rw [run_neq_struct, run_equalIn_agg _ 9999 _ _ _ (by kernel_rfl) (by kernel_rfl)]
  have hf : (Try.prog.fieldsOf 27).toList.map (fun f => (f.name == "_", f.type, f.offset)) = [(false, 3, 0), (false, 3, 1), (false, 4, 2), (false, 4, 3)] := by kernel_rfl
  have hu := Try.underlying3
  have hb := Try.underlying4
  generalize (Try.prog.fieldsOf 27).toList = fs at hf
  have hk : Try.prog.plainKey 3 = true := by kernel_rfl
  have hkb : Try.prog.plainKey 4 = true := by kernel_rfl
  match fs, hf with
  | [], hf => simp at hf
  | [_], hf => simp at hf
  | [_, _], hf => simp at hf
  | [_, _, _], hf => simp at hf
  | _ :: _ :: _ :: _ :: _ :: _, hf => simp at hf
  | [f, g, h, k], hf =>
    simp only [List.map_cons, List.map_nil, List.cons.injEq, Prod.mk.injEq, beq_eq_false_iff_ne, and_true] at hf
    obtain ⟨⟨f1, f2, f3⟩, ⟨g1, g2, g3⟩, ⟨h1, h2, h3⟩, k1, k2, k3⟩ := hf
    have e1 : ∀ (a b : Int) (wx : World), (Op.equalIn 9999 3 (.int .i64 a) (.int .i64 b)).run Try.prog wx = .ok (a == b) wx := fun a b wx => run_equalIn_int wx 9998 _ .i64 .i64 a b hu
    have e2 : ∀ (a b : Bool) (wx : World), (Op.equalIn 9999 4 (.bool a) (.bool b)).run Try.prog wx = .ok (a == b) wx := fun a b wx => run_equalIn_bool' wx 9998 _ a b hb
    simp only [Op.eqFields, f1, f2, f3, g1, g2, g3, h1, h2, h3, k1, k2, k3, ne_eq, not_false_eq_true, if_true, Sem.run_bind]
    rw [run_part_plain _ hk (v := .int .i64 a.stamp) rfl, Result.andThen_ok, run_part_plain _ hk (v := .int .i64 b.stamp) rfl, Result.andThen_ok, e1, Result.andThen_ok]
    cases (a.stamp == b.stamp)
    · rfl
    · simp only [Bool.not_true, Bool.false_eq_true, if_false, Sem.run_bind]
      rw [run_part_plain _ hk (v := .int .i64 a.try_) rfl, Result.andThen_ok, run_part_plain _ hk (v := .int .i64 b.try_) rfl, Result.andThen_ok, e1, Result.andThen_ok]
      cases (a.try_ == b.try_)
      · rfl
      · simp only [Bool.not_true, Bool.false_eq_true, if_false, Sem.run_bind]
        rw [run_part_plain _ hkb (v := .bool a.share) rfl, Result.andThen_ok, run_part_plain _ hkb (v := .bool b.share) rfl, Result.andThen_ok, e2, Result.andThen_ok]
        cases (a.share == b.share)
        · rfl
        · simp only [Bool.not_true, Bool.false_eq_true, if_false, Sem.run_bind]
          rw [run_part_plain _ hkb (v := .bool a.firm) rfl, Result.andThen_ok, run_part_plain _ hkb (v := .bool b.firm) rfl, Result.andThen_ok, e2, Result.andThen_ok]
          cases (a.firm == b.firm) <;> rfl

theorem eqHd_self (x : Hd) : eqHd x x = true := by simp [eqHd]
theorem neq_hd_self (x : Hd) : ∀ ws : World, (binOp .neq 27 (.agg #[.int .i64 x.stamp, .int .i64 x.try_, .bool x.share, .bool x.firm]) (.agg #[.int .i64 x.stamp, .int .i64 x.try_, .bool x.share, .bool x.firm])).run Try.prog ws = .ok (.bool false) ws := by
  intro ws; rw [neq_hd, eqHd_self]; rfl

set_option maxRecDepth 100000 in
set_option maxHeartbeats 1000000 in
theorem loHolds_same (v u : Value) (xs : List Hd) (w : World) (hv : RowAt hdE w v xs) (hu : RowAt hdE w u xs) :
    Calls Try.prog 20 #[v, u] w fun e w' => e = .returned (.bool true) ∧ Below w.heap.size w w' := by
  obtain ⟨a, cap, rfl, hl⟩ := hv.shape
  obtain ⟨a', cap', rfl, hl'⟩ := hu.shape
  have HV := hide hv
  have HU := hide hu
  clear hv hu
  generalize hN : xs.length = N at *
  have HN := hide hN
  clear hN
  unfold maxLen at hl hl'
  have hne : ((N : Int) != (N : Int)) = false := by simp
  go_enter Try.func20, Try.ntmps20
  go_wp2
  go_loopw [5] (fun i wr => ∃ k : Nat, k ≤ N ∧ i = .int .i64 k ∧ Below w.heap.size w wr) (fun i _ => N - (intOf i).toNat)
  case atStart => exact ⟨0, Nat.zero_le _, rfl, Below.refl _ _⟩
  case round =>
    obtain ⟨k, hk, rfl, hb⟩ := hrel
    have HB := hide hb
    clear hb
    by_cases hlt : k < N
    · obtain ⟨b, off, rfl⟩ := (unhide HV).some_of (by rw [unhide HN]; omega)
      obtain ⟨b', off', rfl⟩ := (unhide HU).some_of (by rw [unhide HN]; omega)
      obtain ⟨c0, c1, c2, c3⟩ := hd_cells ((unhide HV).kept (unhide HB)) (i := k) (by rw [unhide HN]; exact hlt)
      obtain ⟨d0, d1, d2, d3⟩ := hd_cells ((unhide HU).kept (unhide HB)) (i := k) (by rw [unhide HN]; exact hlt)
      have hxb := neq_hd_self (xs.getD k Hd.z)
      generalize xs.getD k Hd.z = x at *
      have hkI : (k : Int) < (N : Int) := by omega
      have hk0 : (0 : Int) ≤ (k : Int) := by omega
      go_wp2
      go_quiet (fail)
      go_wp2
      go_roundw
      case rel => exact ⟨k + 1, hlt, by go_num, below_drewN (unhide HB) _⟩
      case measure => simp [intOf]; omega
    · go_wp2
      go_ret
      exact ⟨rfl, unhide HB⟩

set_option maxRecDepth 100000 in
set_option maxHeartbeats 1000000 in
theorem loLock_same (l : Lk) (a b c d : Value) (w : World) (hv : LkAt w l a b) (hu : LkAt w l c d) :
    Calls Try.prog 19 #[lkV l a b, lkV l c d] w fun e w' => e = .returned (.bool true) ∧ Below w.heap.size w w' := by
  obtain ⟨slot, H, W⟩ := l
  obtain ⟨a0, a1, rfl, -⟩ := hv.held.shape
  obtain ⟨b0, b1, rfl, -⟩ := hv.waits.shape
  obtain ⟨c0, c1, rfl, -⟩ := hu.held.shape
  obtain ⟨d0, d1, rfl, -⟩ := hu.waits.shape
  have HV := hide hv
  have HU := hide hu
  clear hv hu
  simp only [lkV] at *
  have hss : (slot == slot) = true := by simp
  go_enter Try.func19, Try.ntmps19
  go_wp2_with fail
  have hbz : Below w.heap.size w ((w.alloc (.cells #[.int .i64 slot, .slice a0 H.length a1, .slice b0 W.length b1] 25)).alloc (.cells #[.int .i64 slot, .slice c0 H.length c1, .slice d0 W.length d1] 25)) := ((Below.refl _ _).alloc (Nat.le_refl _) _).alloc (by simp) _
  refine (loHolds_same _ _ H _ ((unhide HV).kept hbz).held ((unhide HU).kept hbz).held).mono ?_
  rintro e w1 ⟨rfl, h1⟩
  have HB1 := hide (hbz.trans (h1.mono hbz.size))
  have x1 := ((Bx.made w 25 #[.int .i64 slot, .slice a0 H.length a1, .slice b0 W.length b1]).allocK (o := .cells #[.int .i64 slot, .slice c0 H.length c1, .slice d0 W.length d1] 25)).kept h1
  have x2 : Bx w1 (w.heap.size + 1) 25 #[.int .i64 slot, .slice c0 H.length c1, .slice d0 W.length d1] := Bx.kept ⟨heap_alloc2_new w (.cells #[.int .i64 slot, .slice a0 H.length a1, .slice b0 W.length b1] 25) (.cells #[.int .i64 slot, .slice c0 H.length c1, .slice d0 W.length d1] 25)⟩ h1
  obtain ⟨p0, p1, p2⟩ := x1.three
  obtain ⟨q0, q1, q2⟩ := x2.three
  clear x1 x2 h1 hbz
  go_wp2_with fail
  refine (loHolds_same _ _ W _ ((unhide HV).kept (unhide HB1)).waits ((unhide HU).kept (unhide HB1)).waits).mono ?_
  rintro e w2 ⟨rfl, h2⟩
  go_wp2_with fail
  go_ret
  exact ⟨rfl, (unhide HB1).trans (h2.mono (unhide HB1).size)⟩

end Go.Proofs.Ytoojnhodjkpecaa
