/- How the specification sets a key in pairs: the walk. -/
import Derived.Test.YtimnhgncnhmgcaaCh
namespace Go.Proofs.Ytimnhgncnhmgcaa
open Go.RowKit

theorem setFold_step {k v : Int} {ps : List Pr} {j : Nat} (hj : j < ps.length) : setFold k v (ps.take (j + 1)) = setStep k v (setFold k v (ps.take j)) (ps.getD j Pr.z) := by
  rw [take_succ_getD ps Pr.z j hj, setFold_append]; rfl

theorem setFold_length (k v : Int) (ps : List Pr) : (setFold k v ps).1.length ≤ 2 * ps.length := by
  have : ∀ (ps : List Pr) (s : List Pr × Bool), (ps.foldl (setStep k v) s).1.length ≤ s.1.length + 2 * ps.length := by
    intro ps
    induction ps with
    | nil => intro s; simp
    | cons p r ih =>
      intro s
      have h1 := ih (setStep k v s p)
      have h2 : (setStep k v s p).1.length ≤ s.1.length + 2 := by
        unfold setStep; dsimp only; repeat' split
        all_goals simp
      simp only [List.foldl_cons, List.length_cons]; omega
  simpa [setFold] using this ps ([], false)

theorem st_A1 {k v : Int} {s : List Pr × Bool} {x : Pr} (h1 : s.2 = true) (h2 : x.key = k) : setStep k v s x = s := by simp [setStep, h1, h2]
theorem st_A2 {k v : Int} {s : List Pr × Bool} {x : Pr} (h1 : s.2 = true) (h2 : ¬ x.key = k) : setStep k v s x = (s.1 ++ [x], s.2) := by simp [setStep, h1, h2]
theorem st_B1 {k v : Int} {s : List Pr × Bool} {x : Pr} (h1 : s.2 = false) (h3 : x.key = k) : setStep k v s x = (s.1 ++ [⟨k, v⟩], true) := by simp [setStep, h1, h3]
theorem st_B2 {k v : Int} {s : List Pr × Bool} {x : Pr} (h1 : s.2 = false) (h2 : k ≤ x.key) (h3 : ¬ x.key = k) : setStep k v s x = (s.1 ++ [⟨k, v⟩] ++ [x], true) := by simp [setStep, h1, h2, h3]
theorem st_B3 {k v : Int} {s : List Pr × Bool} {x : Pr} (h1 : s.2 = false) (h2 : ¬ k ≤ x.key) (h3 : ¬ x.key = k) : setStep k v s x = (s.1 ++ [x], s.2) := by simp [setStep, h1, h2, h3]

set_option maxRecDepth 100000 in
set_option maxHeartbeats 2000000 in
theorem l1Set_any (u : Value) (ps : List Pr) (k v : Int) (w : World) (hu : PrsAt w u ps) (hlen : ps.length ≤ 64) :
    Calls Try.prog 49 #[u, .int .i64 k, .int .i64 v] w fun e w' => ∃ r, e = .returned r ∧ w'.ownsRow w.heap.size 39 2 r (setP ps k v).length (prFlat (setP ps k v)) ∧ Below w.heap.size w w' := by
  obtain ⟨a, cap, rfl, h1, h2, h3⟩ := hu
  generalize hN : ps.length = N at *
  have HN := hide hN
  clear hN
  unfold maxLen at h2
  obtain ⟨i0, hi, hz0, hz1, hz2⟩ := info_parts Try.infoPr2
  have hoA : (w.alloc (.cells #[] 39)).ownsRow w.heap.size 39 2 (.slice (some ⟨w.heap.size, 0, none⟩) 0 0) 0 [] := World.ownsRow_made w #[] 0 (Nat.le_refl _) (by simp [maxLen]) (by simp)
  go_enter Try.func49, Try.ntmps49
  go_wp2
  go_loopw [7, 8, 9] (fun r d i wr => ∃ j : Nat, j ≤ N ∧ i = .int .i64 j ∧ d = .bool (setFold k v (ps.take j)).2 ∧ Below w.heap.size w wr ∧ wr.ownsRow w.heap.size 39 2 r (setFold k v (ps.take j)).1.length (prFlat (setFold k v (ps.take j)).1)) (fun _ _ i _ => N - (intOf i).toNat)
  case atStart => exact ⟨0, Nat.zero_le _, rfl, rfl, (Below.refl _ _).alloc (Nat.le_refl _) _, hoA⟩
  case round =>
    obtain ⟨j, hj, rfl, rfl, hbr, hown⟩ := hrel
    clear hoA
    by_cases hlt : j < N
    · obtain ⟨b, off, rfl, hc⟩ : ∃ b off, a = some ⟨b, off, none⟩ ∧ PrCells w b off N ps := by
        rcases h3 with h3 | h3
        · have := unhide HN; subst h3; simp at this; omega
        · exact h3
      clear h3
      obtain ⟨e0, e1⟩ := hc j hlt
      have hbl : b < w.heap.size := lt_of_cell e0
      have HKP : Hid (∀ (wx : World) (o : Nat), Below w.heap.size w wx → wx.cell? ⟨b, o, none⟩ = w.cell? ⟨b, o, none⟩) := fun wx o hb => hb.cell (p := ⟨b, o, none⟩) hbl
      have hsf := setFold_step (k := k) (v := v) (ps := ps) (j := j) (by rw [unhide HN]; exact hlt)
      have hll := setFold_length k v (ps.take j)
      have htl : (ps.take j).length ≤ j := List.length_take_le _ _
      generalize hx : ps.getD j Pr.z = x at e0 e1 hsf
      have HX := hide hx
      have HE0 := hide e0
      have HE1 := hide e1
      generalize hS : setFold k v (ps.take j) = S at *
      have HSF := hide hsf
      clear hx hc e0 e1 hsf hS
      obtain ⟨Ls, d⟩ := S
      simp only at hown hll ⊢
      have c0 : wr.cell? ⟨b, off + j * 2, none⟩ = some (.int .i64 x.key) := (unhide HKP _ _ hbr).trans (unhide HE0)
      have c1 : wr.cell? ⟨b, off + j * 2 + 1, none⟩ = some (.int .i64 x.val) := (unhide HKP _ _ hbr).trans (unhide HE1)
      have hszr := hbr.size
      cases d
      · by_cases hkx : k ≤ x.key
        · have hkx' : decide (k ≤ x.key) = true := by simpa using hkx
          by_cases hxk : x.key = k
          · have hxb : (x.key != k) = false := by simpa using hxk
            have HS := hide (st_B1 (k := k) (v := v) (s := (Ls, false)) rfl hxk)
            clear hkx hxk
            go_wp2_with (at_builtin; refine wpList_append_lies _ rfl (.tmp 28) (.tmp 32) 24 rfl w.heap.size 39 i0 (.agg #[.int .i64 0, .int .i64 0]) 2 16 Try.underlying24 hi hz0 hz1 hz2 rfl (by decide) _ Ls.length _ rfl (hown.alloc _) ⟨wr.heap.size, 0, none⟩ 1 1 [.int .i64 k, .int .i64 v] rfl rfl (World.news_of_block (heap_alloc_new _ _)) (by simp [Value.oneCell']) (by decide) (by unfold maxLen; omega) (by omega) (by simp; omega) (wr.heap.size + 1) (by simp) ?_; intro g cp w1 hown2 hgrow hat hlt2; have hbw : Below w.heap.size w w1 := Below.grown (hbr.alloc hszr _) hgrow (by simp; omega) (fun q hq => (hown.lt q hq).1); have c0' : w1.cell? ⟨b, off + j * 2, none⟩ = some (.int .i64 x.key) := (unhide HKP _ _ hbw).trans (unhide HE0))
            go_roundw
            case rel =>
              refine ⟨j + 1, hlt, by go_num, by rw [unhide HSF, unhide HS], hbw, ?_⟩
              rw [unhide HSF, unhide HS]
              simp only [prFlat_append, List.length_append]
              exact hown2
            case measure => simp [intOf]; omega
          · have hxb : (x.key != k) = true := by simpa using hxk
            have HS := hide (st_B2 (k := k) (v := v) (s := (Ls, false)) rfl hkx hxk)
            clear hkx hxk
            go_wp2_with (first
              | (at_builtin; refine wpList_append_lies _ rfl (.tmp 28) (.tmp 32) 24 rfl w.heap.size 39 i0 (.agg #[.int .i64 0, .int .i64 0]) 2 16 Try.underlying24 hi hz0 hz1 hz2 rfl (by decide) _ Ls.length _ rfl (hown.alloc _) ⟨wr.heap.size, 0, none⟩ 1 1 [.int .i64 k, .int .i64 v] rfl rfl (World.news_of_block (heap_alloc_new _ _)) (by simp [Value.oneCell']) (by decide) (by unfold maxLen; omega) (by omega) (by simp; omega) (wr.heap.size + 1) (by simp) ?_; intro g cp w1 hown2 hgrow hat hlt2; have hbw : Below w.heap.size w w1 := Below.grown (hbr.alloc hszr _) hgrow (by simp; omega) (fun q hq => (hown.lt q hq).1); have c0' : w1.cell? ⟨b, off + j * 2, none⟩ = some (.int .i64 x.key) := (unhide HKP _ _ hbw).trans (unhide HE0); have c1' : w1.cell? ⟨b, off + j * 2 + 1, none⟩ = some (.int .i64 x.val) := (unhide HKP _ _ hbw).trans (unhide HE1); have hszw := hbw.size)
              | (at_builtin; refine wpList_append_lies _ rfl (.tmp 41) (.tmp 46) 24 rfl w.heap.size 39 i0 (.agg #[.int .i64 0, .int .i64 0]) 2 16 Try.underlying24 hi hz0 hz1 hz2 rfl (by decide) _ (Ls.length + 1) _ rfl (hown2.alloc _) ⟨w1.heap.size, 0, none⟩ 1 1 [.int .i64 x.key, .int .i64 x.val] rfl rfl (World.news_of_block (heap_alloc_new _ _)) (by simp [Value.oneCell']) (by decide) (by unfold maxLen; omega) (by omega) (by simp; omega) (w1.heap.size + 1) (by simp) ?_; intro g' cp' w2 hown3 hgrow2 hat2 hlt3; have hbw2 : Below w.heap.size w w2 := Below.grown (hbw.alloc hszw _) hgrow2 (by simp; omega) (fun q hq => (hown2.lt q hq).1)))
            go_roundw
            case rel =>
              refine ⟨j + 1, hlt, by go_num, by rw [unhide HSF, unhide HS], hbw2, ?_⟩
              rw [unhide HSF, unhide HS]
              simp only [prFlat_append, List.length_append]
              exact hown3
            case measure => simp [intOf]; omega
        · have hkx' : decide (k ≤ x.key) = false := by simpa using hkx
          have hxk : ¬ x.key = k := by omega
          have hxb : (x.key != k) = true := by simpa using hxk
          have HS := hide (st_B3 (k := k) (v := v) (s := (Ls, false)) rfl hkx hxk)
          clear hkx hxk
          go_wp2_with (at_builtin; refine wpList_append_lies _ rfl (.tmp 41) (.tmp 46) 24 rfl w.heap.size 39 i0 (.agg #[.int .i64 0, .int .i64 0]) 2 16 Try.underlying24 hi hz0 hz1 hz2 rfl (by decide) _ Ls.length _ rfl (hown.alloc _) ⟨wr.heap.size, 0, none⟩ 1 1 [.int .i64 x.key, .int .i64 x.val] rfl rfl (World.news_of_block (heap_alloc_new _ _)) (by simp [Value.oneCell']) (by decide) (by unfold maxLen; omega) (by omega) (by simp; omega) (wr.heap.size + 1) (by simp) ?_; intro g cp w1 hown2 hgrow hat hlt2; have hbw : Below w.heap.size w w1 := Below.grown (hbr.alloc hszr _) hgrow (by simp; omega) (fun q hq => (hown.lt q hq).1))
          go_roundw
          case rel =>
            refine ⟨j + 1, hlt, by go_num, by rw [unhide HSF, unhide HS], hbw, ?_⟩
            rw [unhide HSF, unhide HS]
            simp only [prFlat_append, List.length_append]
            exact hown2
          case measure => simp [intOf]; omega
      · by_cases hxk : x.key = k
        · have hxb : (x.key != k) = false := by simpa using hxk
          have HS := hide (st_A1 (k := k) (v := v) (s := (Ls, true)) rfl hxk)
          clear hxk
          go_wp2
          go_roundw
          case rel =>
            refine ⟨j + 1, hlt, by go_num, by rw [unhide HSF, unhide HS], hbr, ?_⟩
            rw [unhide HSF, unhide HS]; exact hown
          case measure => simp [intOf]; omega
        · have hxb : (x.key != k) = true := by simpa using hxk
          have HS := hide (st_A2 (k := k) (v := v) (s := (Ls, true)) rfl hxk)
          clear hxk
          go_wp2_with (at_builtin; refine wpList_append_lies _ rfl (.tmp 41) (.tmp 46) 24 rfl w.heap.size 39 i0 (.agg #[.int .i64 0, .int .i64 0]) 2 16 Try.underlying24 hi hz0 hz1 hz2 rfl (by decide) _ Ls.length _ rfl (hown.alloc _) ⟨wr.heap.size, 0, none⟩ 1 1 [.int .i64 x.key, .int .i64 x.val] rfl rfl (World.news_of_block (heap_alloc_new _ _)) (by simp [Value.oneCell']) (by decide) (by unfold maxLen; omega) (by omega) (by simp; omega) (wr.heap.size + 1) (by simp) ?_; intro g cp w1 hown2 hgrow hat hlt2; have hbw : Below w.heap.size w w1 := Below.grown (hbr.alloc hszr _) hgrow (by simp; omega) (fun q hq => (hown.lt q hq).1))
          go_roundw
          case rel =>
            refine ⟨j + 1, hlt, by go_num, by rw [unhide HSF, unhide HS], hbw, ?_⟩
            rw [unhide HSF, unhide HS]
            simp only [prFlat_append, List.length_append]
            exact hown2
          case measure => simp [intOf]; omega
    · have hte : ps.take j = ps := List.take_of_length_le (by rw [unhide HN]; omega)
      rw [hte] at hown ⊢
      clear hte
      have hll := setFold_length k v ps
      rw [unhide HN] at hll
      have hszr := hbr.size
      cases hd : (setFold k v ps).2
      · have HP : Hid (setP ps k v = (setFold k v ps).1 ++ [⟨k, v⟩]) := by show setP ps k v = _; simp [setP, hd]
        generalize (setFold k v ps).1 = Ls at *
        go_wp2_with (at_builtin; refine wpList_append_lies _ rfl (.tmp 50) (.tmp 54) 24 rfl w.heap.size 39 i0 (.agg #[.int .i64 0, .int .i64 0]) 2 16 Try.underlying24 hi hz0 hz1 hz2 rfl (by decide) _ Ls.length _ rfl (hown.alloc _) ⟨wr.heap.size, 0, none⟩ 1 1 [.int .i64 k, .int .i64 v] rfl rfl (World.news_of_block (heap_alloc_new _ _)) (by simp [Value.oneCell']) (by decide) (by unfold maxLen; omega) (by omega) (by simp; omega) (wr.heap.size + 1) (by simp) ?_; intro g cp w1 hown2 hgrow hat hlt2; have hbw : Below w.heap.size w w1 := Below.grown (hbr.alloc hszr _) hgrow (by simp; omega) (fun q hq => (hown.lt q hq).1))
        go_ret
        rw [unhide HP]
        simp only [prFlat_append, List.length_append]
        exact ⟨_, rfl, hown2, hbw⟩
      · have HP : Hid (setP ps k v = (setFold k v ps).1) := by show setP ps k v = _; simp [setP, hd]
        generalize (setFold k v ps).1 = Ls at *
        go_wp2
        go_ret
        rw [unhide HP]
        exact ⟨_, rfl, hown, hbr⟩

end Go.Proofs.Ytimnhgncnhmgcaa
