/- The desk: a statement that adds, one that needs. -/
import Derived.Test.YtimnhgncnhmgcaaDesk
namespace Go.Proofs.Ytimnhgncnhmgcaa
open Go.RowKit
attribute [local go_sem ↓] Go.wp_at_zero Go.wp_at_succ

set_option maxRecDepth 100000 in
set_option maxHeartbeats 1000000 in
theorem deskDo_add (D B0 K : Nat) (n : Int) (s : Sta) (w : World) (hd : DeskAt w D B0 s) (hK : K < 32) (hn : -9999 ≤ n ∧ n ≤ 9999) (hf : -9999 ≤ s.f K ∧ s.f K ≤ 9999) :
    Calls Try.prog 79 #[.pointer (some ⟨D, 0, none⟩), .iface 144 (.agg #[.int .i64 K, .int .i64 n])] w fun e w' => (valB (s.f K + n) = true → e = .returned (.tuple #[]) ∧ DeskAt w' D B0 ⟨upd s.f K (s.f K + n), upd s.c K true, s.g⟩) ∧ (valB (s.f K + n) = false → e = overBy 2) ∧ Below B0 w w' := by
  have hta := ta_add_get
  have htb := ta_add_put
  have htc := ta_add_add
  obtain ⟨v0, v1⟩ := hd.vals K hK
  have HD := hide hd
  have hl := hd.lt
  have hlow := hd.low
  clear hd
  have hK' : (K : Int) < 32 := by omega
  have hK0 : (0 : Int) ≤ (K : Int) := by omega
  generalize hF : s.f K = FK at *
  have HF := hide hF
  clear hF
  obtain ⟨hn1, hn2⟩ := hn
  obtain ⟨hf1, hf2⟩ := hf
  have hc3 : (w.alloc (.cells #[.int .i64 K, .int .i64 n] 144)).cell? ⟨D, K, none⟩ = some (.int .i64 FK) := by rw [World.cell?_alloc_past _ D _ hl]; exact v0
  have hwr : IntKind.i64.wrap (FK + n) = FK + n := by rw [IntKind.wrap_i64]; omega
  cases hvb : valB (FK + n)
  · have HVB := hide hvb
    clear hvb
    go_enter Try.func79, Try.ntmps79
    go_wp2
    go_region_dies
    all_goals (refine (deskSet_over D K (FK + n) _ (unhide HVB)).mono ?_; rintro e w' ⟨rfl, rfl⟩; exact ⟨rfl, (fun h => by cases h), (fun _ => rfl), ((Below.refl _ _).alloc (by omega) _).drew⟩)
  · have HVB := hide hvb
    clear hvb
    go_enter Try.func79, Try.ntmps79
    go_wp2
    go_region_with (first | (go_at_call 92; refine (deskSet_any D B0 K (FK + n) s _ (((unhide HD).alloc _).drew) hK (unhide HVB)).mono ?_; rintro e w' ⟨rfl, hd', hb'⟩))
    all_goals go_wp2
    all_goals go_end0
    all_goals
      refine ⟨(fun _ => ⟨rfl, ?_⟩), (fun h => by cases h), ((Below.refl _ _).alloc (by omega) _).drew.trans hb'⟩
      exact hd'


set_option maxRecDepth 100000 in
set_option maxHeartbeats 1000000 in
theorem deskDo_refused (D B0 K : Nat) (n : Int) (s : Sta) (w : World) (hd : DeskAt w D B0 s) (hK : K < 32) (hlt : s.f K < n) :
    Calls Try.prog 79 #[.pointer (some ⟨D, 0, none⟩), .iface 145 (.agg #[.int .i64 K, .int .i64 n])] w fun e w' => e = overBy 1 ∧ Below B0 w w' := by
  have hta := ta_need_get
  have htb := ta_need_put
  have htc := ta_need_add
  have htd := ta_need_need
  obtain ⟨v0, v1⟩ := hd.vals K hK
  have HD := hide hd
  have hl := hd.lt
  have hlow := hd.low
  clear hd
  have hK' : (K : Int) < 32 := by omega
  have hK0 : (0 : Int) ≤ (K : Int) := by omega
  generalize s.f K = FK at *
  have hc3 : (w.alloc (.cells #[.int .i64 K, .int .i64 n] 145)).cell? ⟨D, K, none⟩ = some (.int .i64 FK) := by rw [World.cell?_alloc_past _ D _ hl]; exact v0
  go_enter Try.func79, Try.ntmps79
  go_wp2
  go_region
  all_goals go_wp2
  all_goals exact ⟨rfl, rfl, ((Below.refl _ _).alloc (by omega) _).drew⟩

set_option maxRecDepth 100000 in
set_option maxHeartbeats 1000000 in
theorem deskDo_needed (D B0 K : Nat) (n : Int) (s : Sta) (w : World) (hd : DeskAt w D B0 s) (hK : K < 32) (hlt : ¬ s.f K < n) :
    Calls Try.prog 79 #[.pointer (some ⟨D, 0, none⟩), .iface 145 (.agg #[.int .i64 K, .int .i64 n])] w fun e w' => e = .returned (.tuple #[]) ∧ DeskAt w' D B0 s ∧ Below B0 w w' := by
  have hta := ta_need_get
  have htb := ta_need_put
  have htc := ta_need_add
  have htd := ta_need_need
  obtain ⟨v0, v1⟩ := hd.vals K hK
  have HD := hide hd
  have hl := hd.lt
  have hlow := hd.low
  clear hd
  have hK' : (K : Int) < 32 := by omega
  have hK0 : (0 : Int) ≤ (K : Int) := by omega
  generalize s.f K = FK at *
  have hc3 : (w.alloc (.cells #[.int .i64 K, .int .i64 n] 145)).cell? ⟨D, K, none⟩ = some (.int .i64 FK) := by rw [World.cell?_alloc_past _ D _ hl]; exact v0
  go_enter Try.func79, Try.ntmps79
  go_wp2
  go_region
  all_goals go_wp2
  all_goals go_end0
  all_goals exact ⟨rfl, ((unhide HD).alloc _).drew, ((Below.refl _ _).alloc (by omega) _).drew⟩

/-- A statement that is ok, done at the desk. -/
theorem deskDo_any (x : St) (D B0 : Nat) (s : Sta) (w : World) (hx : stOk x = true) (hd : DeskAt w D B0 s) (hval : ∀ q, valB (s.f q) = true) (hgl : s.g.length ≤ 100) :
    Calls Try.prog 79 #[.pointer (some ⟨D, 0, none⟩), stepV x] w fun e w' => Below B0 w w' ∧
      ((∃ s', stepM x s = .ok s' ∧ e = .returned (.tuple #[]) ∧ DeskAt w' D B0 s' ∧ (∀ q, valB (s'.f q) = true) ∧ s'.g.length ≤ s.g.length + 1) ∨ (∃ k, stepM x s = .error k ∧ e = overBy k)) := by
  obtain ⟨o1, o2, o3, o4, o5⟩ := stOk_parts hx
  obtain ⟨K, hK⟩ : ∃ K : Nat, x.key = K := ⟨x.key.toNat, by omega⟩
  have hKt : x.key.toNat = K := by omega
  have hK32 : K < 32 := by omega
  have hin : (inB x.key 0 31 && valB x.num) = true := by simp [inB, o3, o4, o5]
  have hfv := hval K
  by_cases op1 : x.op = 1
  · have hv : stepV x = .iface 141 (.agg #[.int .i64 K]) := by unfold stepV; rw [if_pos hin, if_pos op1, hK]
    rw [hv]
    refine (deskDo_get D B0 K s w hd hK32 hgl).mono ?_
    rintro e w' ⟨rfl, hd', hb⟩
    refine ⟨hb, .inl ⟨_, step_get op1, rfl, by rw [hKt]; exact hd', hval, by simp⟩⟩
  by_cases op2 : x.op = 2
  · have hv : stepV x = .iface 143 (.agg #[.int .i64 K, .int .i64 x.num]) := by unfold stepV; rw [if_pos hin, if_neg op1, if_pos op2, hK]
    rw [hv]
    refine (deskDo_put D B0 K x.num s w hd hK32 o5).mono ?_
    rintro e w' ⟨rfl, hd', hb⟩
    exact ⟨hb, .inl ⟨_, step_put op2 o5, rfl, by rw [hKt]; exact hd', upd_val hval o5, by simp⟩⟩
  by_cases op3 : x.op = 3
  · have hv : stepV x = .iface 144 (.agg #[.int .i64 K, .int .i64 x.num]) := by unfold stepV; rw [if_pos hin, if_neg op1, if_neg op2, if_pos op3, hK]
    rw [hv]
    refine (deskDo_add D B0 K x.num s w hd hK32 (valB_bounds o5) (valB_bounds hfv)).mono ?_
    rintro e w' ⟨h1, h2, hb⟩
    refine ⟨hb, ?_⟩
    cases hvb : valB (s.f K + x.num)
    · exact .inr ⟨2, step_over op3 (by rw [hKt]; exact hvb), h2 hvb⟩
    · obtain ⟨he, hd'⟩ := h1 hvb
      exact .inl ⟨_, step_add op3 (by rw [hKt]; exact hvb), he, by rw [hKt]; exact hd', upd_val hval (by rw [hKt]; exact hvb), by simp⟩
  · have op4 : x.op = 4 := by omega
    have hv : stepV x = .iface 145 (.agg #[.int .i64 K, .int .i64 x.num]) := by unfold stepV; rw [if_pos hin, if_neg op1, if_neg op2, if_neg op3, if_pos op4, hK]
    rw [hv]
    by_cases hlt : s.f K < x.num
    · refine (deskDo_refused D B0 K x.num s w hd hK32 hlt).mono ?_
      rintro e w' ⟨rfl, hb⟩
      exact ⟨hb, .inr ⟨1, step_refused op4 (by rw [hKt]; exact hlt), rfl⟩⟩
    · refine (deskDo_needed D B0 K x.num s w hd hK32 hlt).mono ?_
      rintro e w' ⟨rfl, hd', hb⟩
      exact ⟨hb, .inl ⟨_, step_needed op4 (by rw [hKt]; exact hlt), rfl, hd', hval, by simp⟩⟩

end Go.Proofs.Ytimnhgncnhmgcaa
