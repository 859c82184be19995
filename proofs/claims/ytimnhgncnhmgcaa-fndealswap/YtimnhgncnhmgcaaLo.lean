/- The laws' own comparison of pairs, and their look at a key. -/
import Derived.Test.YtimnhgncnhmgcaaDraw2
import Derived.Laws.StructEq
import Derived.ChangeKeysEq
namespace Go.Proofs.Ytimnhgncnhmgcaa
open Go.RowKit
attribute [local go_sem ↓] Go.wp_at_zero Go.wp_at_succ

set_option maxHeartbeats 1000000 in
theorem loGet_any (v : Value) (ps : List Pr) (k : Int) (w : World) (hv : PrsAt w v ps) :
    Calls Try.prog 20 #[v, .int .i64 k] w fun e w' => e = .returned (.int .i64 (getP ps k)) ∧ w' = w := by
  obtain ⟨a, cap, rfl, h1, h2, h3⟩ := hv
  generalize hN : ps.length = N at *
  have HN : Hid (ps.length = N) := hN
  clear hN
  unfold maxLen at h2
  go_enter Try.func20, Try.ntmps20
  go_wp2
  go_loop [5] (fun i => ∃ j : Nat, j ≤ N ∧ i = .int .i64 j ∧ getP (ps.drop j) k = getP ps k) (fun i => N - (intOf i).toNat)
  case atStart => exact ⟨0, Nat.zero_le _, rfl, by simp⟩
  case round =>
    obtain ⟨j, hj, rfl, hd⟩ := hrel
    have HD := hide hd
    clear hd
    by_cases hlt : j < N
    · obtain ⟨b, off, rfl, hc⟩ : ∃ b off, a = some ⟨b, off, none⟩ ∧ PrCells w b off N ps := by
        rcases h3 with h3 | h3
        · have := HN.out; subst h3; simp at this; omega
        · exact h3
      obtain ⟨c0, c1⟩ := hc j hlt
      generalize hx : ps.getD j Pr.z = x at c0 c1
      have HX := hide hx
      clear h3 hc hx
      by_cases hxk : x.key = k
      · have hb : (x.key == k) = true := by simpa using hxk
        have HK := hide hxk
        clear hxk
        go_wp2
        go_ret
        refine ⟨ret_int ?_, rfl⟩
        have h1 := unhide HX; have h2 := unhide HD; have h3 := unhide HK; have h4 := HN.out
        rw [← h2, getP_drop_hit (by omega) (by rw [h1]; exact h3), h1]
      · have hb : (x.key == k) = false := by simpa using hxk
        have HK := hide hxk
        clear hxk
        go_wp2
        go_round
        case rel =>
          have h1 := unhide HX; have h2 := unhide HD; have h3 := unhide HK; have h4 := HN.out
          exact ⟨j + 1, hlt, by go_num, by rw [← h2]; exact (getP_drop_miss (by omega) (by rw [h1]; exact h3)).symm⟩
        case measure => simp [intOf]; omega
    · go_wp2
      go_ret
      refine ⟨ret_int ?_, rfl⟩
      have h2 := unhide HD; have h4 := HN.out
      rw [← h2, List.drop_of_length_le (by omega)]; rfl

theorem neq_pr (x y : Pr) (ws : World) : (binOp .neq 39 (.agg #[.int .i64 x.key, .int .i64 x.val]) (.agg #[.int .i64 y.key, .int .i64 y.val])).run Try.prog ws = .ok (.bool (!(x.key == y.key && x.val == y.val))) ws := by
  rw [run_neq_struct, run_equalIn_agg _ 9999 _ _ _ (by kernel_rfl) (by kernel_rfl)]
  have hf : (Try.prog.fieldsOf 39).toList.map (fun f => (f.name == "_", f.type, f.offset)) = [(false, 3, 0), (false, 3, 1)] := by kernel_rfl
  have hu := Try.underlying3
  generalize (Try.prog.fieldsOf 39).toList = fs at hf
  have hk : Try.prog.plainKey 3 = true := by kernel_rfl
  match fs, hf with
  | [], hf => simp at hf
  | [_], hf => simp at hf
  | _ :: _ :: _ :: _, hf => simp at hf
  | [f, g], hf =>
    simp only [List.map_cons, List.map_nil, List.cons.injEq, Prod.mk.injEq, beq_eq_false_iff_ne, and_true] at hf
    obtain ⟨⟨f1, f2, f3⟩, g1, g2, g3⟩ := hf
    have e1 : ∀ (a b : Int) (wx : World), (Op.equalIn 9999 3 (.int .i64 a) (.int .i64 b)).run Try.prog wx = .ok (a == b) wx := fun a b wx => run_equalIn_int wx 9998 _ .i64 .i64 a b hu
    simp only [Op.eqFields, f1, f2, f3, g1, g2, g3, ne_eq, not_false_eq_true, if_true, Sem.run_bind]
    rw [run_part_plain _ hk (v := .int .i64 x.key) rfl, Result.andThen_ok, run_part_plain _ hk (v := .int .i64 y.key) rfl, Result.andThen_ok, e1, Result.andThen_ok]
    cases (x.key == y.key)
    · rfl
    · simp only [Bool.not_true, Bool.false_eq_true, if_false, Sem.run_bind]
      rw [run_part_plain _ hk (v := .int .i64 x.val) rfl, Result.andThen_ok, run_part_plain _ hk (v := .int .i64 y.val) rfl, Result.andThen_ok, e1, Result.andThen_ok]
      cases (x.val == y.val) <;> rfl

set_option maxHeartbeats 1000000 in
theorem loPrs_any (v u : Value) (xs ys : List Pr) (w : World) (hv : PrsAt w v xs) (hu : PrsAt w u ys) :
    Calls Try.prog 19 #[v, u] w fun e w' => e = .returned (.bool (eqPrs xs ys)) ∧ Below w.heap.size w w' := by
  obtain ⟨a, cap, rfl, h1, h2, h3⟩ := hv
  obtain ⟨a', cap', rfl, h1', h2', h3'⟩ := hu
  generalize hN : xs.length = N at *
  generalize hM : ys.length = M at *
  have HN := hide hN
  have HM := hide hM
  clear hN hM
  unfold maxLen at h2 h2'
  by_cases hNM : N = M
  · subst hNM
    have hne : ((N : Int) != (N : Int)) = false := by simp
    go_enter Try.func19, Try.ntmps19
    go_wp2
    go_loopw [5] (fun i wr => ∃ k : Nat, k ≤ N ∧ i = .int .i64 k ∧ Below w.heap.size w wr ∧ xs.take k = ys.take k) (fun i _ => N - (intOf i).toNat)
    case atStart => exact ⟨0, Nat.zero_le _, rfl, Below.refl _ _, by simp⟩
    case round =>
      obtain ⟨k, hk, rfl, hb, htk⟩ := hrel
      have HT := hide htk
      clear htk
      by_cases hlt : k < N
      · obtain ⟨b, off, rfl, hc⟩ : ∃ b off, a = some ⟨b, off, none⟩ ∧ PrCells w b off N xs := by
          rcases h3 with h3 | h3
          · have := unhide HN; subst h3; simp at this; omega
          · exact h3
        obtain ⟨b', off', rfl, hc'⟩ : ∃ b off, a' = some ⟨b, off, none⟩ ∧ PrCells w b off N ys := by
          rcases h3' with h3 | h3
          · have := unhide HM; subst h3; simp at this; omega
          · exact h3
        obtain ⟨c0, c1⟩ := (hc.kept hb) k hlt
        obtain ⟨d0, d1⟩ := (hc'.kept hb) k hlt
        generalize hx : xs.getD k Pr.z = x at c0 c1
        generalize hy : ys.getD k Pr.z = y at d0 d1
        have HX := hide hx
        have HY := hide hy
        have hkI : (k : Int) < (N : Int) := by omega
        have hk0 : (0 : Int) ≤ (k : Int) := by omega
        clear h3 h3' hc hc' hx hy
        by_cases hxy : x = y
        · have hxb : ∀ ws : World, (binOp .neq 39 (.agg #[.int .i64 x.key, .int .i64 x.val]) (.agg #[.int .i64 y.key, .int .i64 y.val])).run Try.prog ws = .ok (.bool false) ws := by
            intro ws; rw [neq_pr, hxy]; simp
          have HXY := hide hxy
          clear hxy
          go_wp2
          go_quiet (fail)
          go_wp2
          go_roundw
          case rel =>
            have h1 := unhide HX; have h2 := unhide HY; have h3 := unhide HXY
            exact ⟨k + 1, hlt, by go_num, below_drewN hb _, take_eq_step (d := Pr.z) (unhide HT) (by rw [unhide HN]; exact hlt) (by rw [unhide HM]; exact hlt) (by rw [h1, h2, h3])⟩
          case measure => simp [intOf]; omega
        · have hxb : ∀ ws : World, (binOp .neq 39 (.agg #[.int .i64 x.key, .int .i64 x.val]) (.agg #[.int .i64 y.key, .int .i64 y.val])).run Try.prog ws = .ok (.bool true) ws := by
            intro ws; rw [neq_pr]
            have : (x.key == y.key && x.val == y.val) = false := by
              cases hq : (x.key == y.key && x.val == y.val) with
              | false => rfl
              | true =>
                simp at hq; exact absurd (by cases x; cases y; simp at hq ⊢; exact hq) hxy
            rw [this]; rfl
          have HXY := hide hxy
          clear hxy
          go_wp2
          go_quiet (fail)
          go_wp2
          go_ret
          refine ⟨ret_bool ?_, below_drewN hb _⟩
          have h1 := unhide HX; have h2 := unhide HY; have h3 := unhide HXY
          have : eqPrs xs ys = false := by
            simp only [eqPrs, decide_eq_false_iff_not]
            intro e; apply h3; rw [← h1, ← h2, map_tupP_inj e]
          rw [this]
      · go_wp2
        go_ret
        refine ⟨ret_bool ?_, hb⟩
        obtain rfl : k = N := by omega
        have h1 := unhide HT; have h2 := unhide HN; have h3 := unhide HM
        rw [List.take_of_length_le (by omega), List.take_of_length_le (by omega)] at h1
        rw [h1, eqPrs_self]
  · have hne : ((N : Int) != (M : Int)) = true := by simp; omega
    go_enter Try.func19, Try.ntmps19
    go_wp2
    go_ret
    refine ⟨?_, Below.refl _ _⟩
    have : eqPrs xs ys = false := by
      have h1 := unhide HN; have h2 := unhide HM
      simp only [eqPrs, decide_eq_false_iff_not]; intro e; have := map_tupP_inj e; subst this; omega
    rw [this]; rfl

end Go.Proofs.Ytimnhgncnhmgcaa
